/- A stack that dries as the air does: plain mathematics of YardRains. -/
import Derived.Test.YtbgojeppfhldjaaYard
namespace Go.Proofs.Ytbgojeppfhldjaa.Yd
/-- The dryness after a day. -/
def dryAfter (d r : Int) : Int := if r = 0 then min (d + 1) 9 else max (d - r) 0
theorem dryAfter_in {d r : Int} (hd : 0 ≤ d ∧ d ≤ 9) (hr : 0 ≤ r) : 0 ≤ dryAfter d r ∧ dryAfter d r ≤ 9 := by
  unfold dryAfter
  split <;> omega
theorem dryAfter_le {d d' r r' : Int} (hd : 0 ≤ d ∧ d ≤ d' ∧ d' ≤ 9) (hr : 0 ≤ r' ∧ r' ≤ r) : dryAfter d r ≤ dryAfter d' r' := by
  unfold dryAfter
  split <;> split <;> omega
/-- The bounds of a dryness. -/
def Air (b : Bd) : Prop := 0 ≤ b.lo ∧ b.lo ≤ b.hi ∧ b.hi ≤ 9
def nextDry (s r : Bd) : Bd := ⟨dryAfter s.lo r.hi, dryAfter s.hi r.lo⟩
theorem next_air {s r : Bd} (hs : Air s) (hr : r.Ok) : Air (nextDry s r) := by
  unfold Air Bd.Ok at *
  have h1 := dryAfter_in (d := s.lo) (r := r.hi) (by omega) (by omega)
  have h2 := dryAfter_in (d := s.hi) (r := r.lo) (by omega) (by omega)
  have h3 := dryAfter_le (d := s.lo) (d' := s.hi) (r := r.hi) (r' := r.lo) (by omega) (by omega)
  exact ⟨h1.1, h3, h2.2⟩
theorem next_in {s t r q : Bd} (hs : Air s) (ht : Air t) (hr : r.Ok) (hq : q.Ok) (h : s.In t) (h' : r.In q) : (nextDry s r).In (nextDry t q) := by
  unfold Air Bd.Ok Bd.In at *
  exact ⟨dryAfter_le (by omega) (by omega), dryAfter_le (by omega) (by omega)⟩
theorem next_has {s r : Bd} {a n : Int} (hs : Air s) (hr : r.Ok) (h : Bd.Has a s) (h' : Bd.Has n r) : Bd.Has (dryAfter a n) (nextDry s r) := by
  unfold Air Bd.Ok Bd.Has at *
  exact ⟨dryAfter_le (by omega) (by omega), dryAfter_le (by omega) (by omega)⟩
/-- The bounds of the dryness, day by day. -/
def drys : Bd → List Bd → List Bd
  | _, [] => []
  | s, r :: rs => nextDry s r :: drys (nextDry s r) rs
theorem drys_len : ∀ (s : Bd) (rs : List Bd), (drys s rs).length = rs.length
  | _, [] => rfl
  | s, r :: rs => by simp [drys, drys_len]
theorem drys_air : ∀ {s : Bd} {rs : List Bd}, Air s → (∀ r ∈ rs, r.Ok) → ∀ d ∈ drys s rs, Air d
  | _, [], _, _ => by simp [drys]
  | s, r :: rs, hs, hr => by
    have h1 := next_air hs (hr r (by simp))
    intro d hd
    rcases List.mem_cons.1 hd with rfl | hd
    · exact h1
    · exact drys_air h1 (fun x hx => hr x (by simp [hx])) d hd
theorem drys_in : ∀ {s t : Bd} {rs qs : List Bd}, Air s → Air t → s.In t → (∀ r ∈ rs, r.Ok) → (∀ r ∈ qs, r.Ok) → All2 Bd.In rs qs → All2 Bd.In (drys s rs) (drys t qs)
  | _, _, _, _, _, _, _, _, _, .nil => .nil
  | s, t, r :: rs, q :: qs, hs, ht, h, hr, hq, .cons h1 h2 => by
    have o1 := hr r (by simp); have o2 := hq q (by simp)
    exact .cons (next_in hs ht o1 o2 h h1) (drys_in (next_air hs o1) (next_air ht o2) (next_in hs ht o1 o2 h h1) (fun x hx => hr x (by simp [hx])) (fun x hx => hq x (by simp [hx])) h2)

/-- What a day's dryness takes, in thousandths. -/
def share (d : Bd) : Bd := ⟨d.lo * 50, d.hi * 50⟩
theorem share_up {d : Bd} (h : Air d) : (share d).Up 1000 := by unfold Air at h; unfold share Bd.Up; simp only; omega
theorem share_in {d e : Bd} (h : d.In e) : (share d).In (share e) := by unfold Bd.In share at *; simp only; omega
/-- The water that is left. -/
def wet : Bd → List Bd → Bd
  | w, [] => w
  | w, d :: ds => wet (w.left (share d)) ds
/-- The vapour. -/
def vapours : Bd → Bd → List Bd → Bd
  | v, _, [] => v
  | v, w, d :: ds => vapours (v.add (w.part (share d))) (w.left (share d)) ds
theorem up_ok {b : Bd} {n : Int} (h : b.Up n) : b.Ok := ⟨h.1, h.2.1⟩
theorem left_up {w x : Bd} {m : Int} (hw : w.Up m) (hx : x.Up 1000) : (w.left x).Up m := by
  have h := ok_left (up_ok hw) hx
  refine ⟨h.1, h.2, ?_⟩
  have h1 := part_nonneg (x := w.hi) (a := x.lo) (by unfold Bd.Up at hw; omega) hx.1
  unfold Bd.Up at hw
  show w.hi - w.hi * x.lo / 1000 ≤ m
  omega
theorem wet_up {m : Int} : ∀ {w : Bd} {ds : List Bd}, w.Up m → (∀ d ∈ ds, Air d) → (wet w ds).Up m
  | _, [], h, _ => h
  | w, d :: ds, h, hd => wet_up (w := w.left (share d)) (ds := ds) (left_up h (share_up (hd d (by simp)))) (fun x hx => hd x (by simp [hx]))
theorem wet_in : ∀ {w u : Bd} {ds es : List Bd}, w.Ok → u.Ok → w.In u → (∀ d ∈ ds, Air d) → (∀ d ∈ es, Air d) → All2 Bd.In ds es → (wet w ds).In (wet u es)
  | _, _, _, _, _, _, h, _, _, .nil => h
  | w, u, d :: ds, e :: es, hw, hu, h, hd, he, .cons h1 h2 => by
    have s1 := share_up (hd d (by simp)); have s2 := share_up (he e (by simp))
    exact wet_in (w := w.left (share d)) (u := u.left (share e)) (ds := ds) (es := es) (ok_left hw s1) (ok_left hu s2) (in_left h (share_in h1) hw hu s1 s2) (fun x hx => hd x (by simp [hx])) (fun x hx => he x (by simp [hx])) h2
theorem vapours_in : ∀ {v y w u : Bd} {ds es : List Bd}, v.In y → w.Ok → u.Ok → w.In u → (∀ d ∈ ds, Air d) → (∀ d ∈ es, Air d) → All2 Bd.In ds es → (vapours v w ds).In (vapours y u es)
  | _, _, _, _, _, _, hv, _, _, _, _, _, .nil => hv
  | v, y, w, u, d :: ds, e :: es, hv, hw, hu, h, hd, he, .cons h1 h2 => by
    have s1 := share_up (hd d (by simp)); have s2 := share_up (he e (by simp))
    exact vapours_in (v := v.add (w.part (share d))) (y := y.add (u.part (share e))) (w := w.left (share d)) (u := u.left (share e)) (ds := ds) (es := es) (in_add hv (in_part h (share_in h1) hw hu (up_ok s1) (up_ok s2))) (ok_left hw s1) (ok_left hu s2) (in_left h (share_in h1) hw hu s1 s2) (fun x hx => hd x (by simp [hx])) (fun x hx => he x (by simp [hx])) h2
/-- What is really left. -/
def realWet : Int → Int → List Int → Int
  | l, _, [] => l
  | l, a, n :: ns => realWet (l - l * 50 * dryAfter a n / 1000) (dryAfter a n) ns
theorem real_wet : ∀ {w s : Bd} {rs : List Bd} {l a : Int} {ns : List Int}, w.Ok → Air s → (∀ r ∈ rs, r.Ok) → Bd.Has l w → Bd.Has a s → All2 (fun n r => Bd.Has n r) ns rs → Bd.Has (realWet l a ns) (wet w (drys s rs))
  | _, _, _, _, _, _, _, _, _, h, _, .nil => h
  | w, s, r :: rs, l, a, n :: ns, hw, hs, hr, h, ha, .cons h1 h2 => by
    have o1 := hr r (by simp)
    have hn := next_air hs o1
    have hh := next_has hs o1 ha h1
    have s1 := share_up hn
    refine real_wet (w := w.left (share (nextDry s r))) (s := nextDry s r) (rs := rs) (l := l - l * 50 * dryAfter a n / 1000) (a := dryAfter a n) (ns := ns) (ok_left hw s1) hn (fun x hx => hr x (by simp [hx])) ?_ hh h2
    rw [show l * 50 * dryAfter a n = l * (dryAfter a n * 50) from by rw [Int.mul_assoc, Int.mul_comm 50]]
    unfold Bd.Has at *
    unfold Bd.Ok at hw
    unfold Bd.Up share at s1
    unfold share Bd.left
    simp only at s1 ⊢
    exact ⟨left_le (by omega) h.1 s1.2.2 (by omega) (by omega), left_le (by omega) h.2 (by omega) (by omega) (by omega)⟩

section
variable {κ : Type} [DecidableEq κ]
/-- Rests of one stack, a day each. -/
def rests (c e : κ) : Nat → List Bd → List (Deed κ)
  | _, [] => []
  | i, d :: ds => ⟨2, (i : Int), c, e, share d, .zero⟩ :: rests c e (i + 1) ds
omit [DecidableEq κ] in
theorem rests_len (c e : κ) : ∀ (i : Nat) (ds : List Bd), (rests c e i ds).length = ds.length
  | _, [] => rfl
  | i, d :: ds => by simp [rests, rests_len]
/-- The yard whose only stack dries. -/
def driedDeeds (c e : κ) (dry water : Bd) (ds : List Bd) : List (Deed κ) := ⟨1, 0, c, e, dry, water⟩ :: rests c e 0 ds
theorem rests_run {be af : Int} {c e : κ} {dry : Bd} {pil boi : Int} {src : List Int} : ∀ (ds : List Bd) (w v : Bd) (acc : Acc) (i q : Nat),
    run be af ⟨[⟨c, dry, w, pil, boi, src⟩], { acc with vapour := v }⟩ q (rests c e i ds) = (⟨[⟨c, dry, wet w ds, pil, boi, src⟩], { acc with vapour := vapours v w ds }⟩, q + ds.length, 0)
  | [], w, v, acc, i, q => rfl
  | d :: ds, w, v, acc, i, q => by
    have ha : at_ [(⟨c, dry, w, pil, boi, src⟩ : Stk κ)] c = 0 := by simp [at_]
    have hf : fault be af ⟨[⟨c, dry, w, pil, boi, src⟩], { acc with vapour := v }⟩ (⟨2, (i : Int), c, e, share d, .zero⟩ : Deed κ) = 0 := by
      unfold fault
      simp [ha]
    have hd : deed ⟨[⟨c, dry, w, pil, boi, src⟩], { acc with vapour := v }⟩ (⟨2, (i : Int), c, e, share d, .zero⟩ : Deed κ) q = ⟨[⟨c, dry, w.left (share d), pil, boi, src⟩], { acc with vapour := v.add (w.part (share d)) }⟩ := by
      unfold deed
      simp [ha, after, Stk.done, Acc.done]
    rw [rests, run, if_pos hf, hd, rests_run ds]
    simp only [wet, vapours, List.length_cons]
    congr 2
    omega
/-- What Follow says of it: no fault, one stack, its bark as it was, its water as the days leave it. -/
theorem dried_follow {be af : Int} (c e : κ) (dry water : Bd) (ds : List Bd) :
    follow be af (driedDeeds c e dry water ds) (ds.length + 1) = (⟨[⟨c, dry, wet water ds, 0, -1, [0]⟩], { Acc.zero with vapour := vapours .zero water ds }⟩, ds.length + 1, 0) := by
  unfold follow driedDeeds
  rw [List.take_of_length_le (by rw [List.length_cons, rests_len]; exact Nat.le_refl _)]
  have hf : fault be af (.empty : St κ) (⟨1, 0, c, e, dry, water⟩ : Deed κ) = 0 := by
    unfold fault
    simp [St.empty, at_]
  have hd : deed (.empty : St κ) (⟨1, 0, c, e, dry, water⟩ : Deed κ) ((0 : Nat) : Int) = ⟨[⟨c, dry, water, 0, -1, [0]⟩], { Acc.zero with vapour := .zero }⟩ := by
    rw [deed_one rfl]
    rfl
  rw [run, if_pos hf, hd, rests_run]
  congr 2
  omega
end
end Go.Proofs.Ytbgojeppfhldjaa.Yd
