/- The yard: numbers stay small, sources stay in order; nothing of the program. A deed's own memory beside the book: the deed, the stack, what else the call makes. -/
import Derived.Test.YtgekekhbhkgekaaRYJoin
namespace Go.Proofs.Ytgekekhbhkgekaa.Yd
def cap (i:Nat):Int:=100000000*4 ^ i
theorem cap_succ (i:Nat):cap (i+1)=4*cap i:=by unfold cap;rw [Int.pow_succ];omega
theorem cap_pos (i:Nat):100000000≤cap i:=by
 induction i with
 | zero=>decide
 | succ i ih=>rw [cap_succ];omega
theorem cap_mono {i k:Nat}(h:i≤k):cap i≤cap k:=by
 induction h with
 | refl=>exact Int.le_refl _
 | step _ ih=>rw [Nat.succ_eq_add_one,cap_succ];have:=cap_pos ‹Nat›;omega
theorem cap_le {i:Nat}(h:i≤12):cap i≤2000000000000000:=Int.le_trans (cap_mono h) (by decide)
theorem part_le_three {x b:Int}(hx:0≤x)(hb:b≤3000):x*b/1000≤3*x:=by
 have h:x*b≤x*3000:=Int.mul_le_mul_of_nonneg_left hb hx
 omega
variable {κ:Type} [DecidableEq κ]
structure Fits (d:Deed κ):Prop where
 fine:d.Fine
 a8:d.a.hi≤100000000
 b8:d.b.hi≤100000000
 soak:d.kind=3→d.b.hi≤3000
 day:0≤d.day∧d.day≤2000
structure SmallStk (i:Nat)(x:Stk κ):Prop where
 dry:x.dry.Up (cap i)
 water:x.water.Up (cap i)
 piled:0≤x.piled∧x.piled≤2000
 boiled : -1≤x.boiled∧x.boiled≤2000
 asc:Asc x.src
 src:∀ p ∈ x.src,0≤p∧p<(i:Int)
 some:x.src≠[]
structure SmallAcc (i:Nat)(c:Acc):Prop where
 vapour:c.vapour.Up (cap i)
 broth:c.broth.Up (cap i)
 dust:c.dust.Up (cap i)
 soldDry:c.soldDry.Up (cap i)
 soldWater:c.soldWater.Up (cap i)
 soaked:c.soaked.Up (cap i)
structure SmallSt (i:Nat)(s:St κ):Prop where
 stacks:∀ x ∈ s.stacks,SmallStk i x
 acc:SmallAcc i s.acc
theorem asc_len:∀ {l:List Int} {a n:Int},Asc l→(∀ p ∈ l,a≤p∧p<n)→(l.length:Int)≤max 0 (n-a)
 | [],a,n,_,_=>by simp;omega
 | x :: l,a,n,hl,h=>by
   have hl':=List.pairwise_cons.1 hl
   have hx:=h x (by simp)
   have:=asc_len (l:=l) (a:=x+1) (n:=n) hl'.2 (fun p hp=>⟨by have:=hl'.1 p hp;omega,(h p (by simp [hp])).2⟩)
   simp only [List.length_cons]
   omega
omit [DecidableEq κ]in
theorem SmallStk.len {i:Nat}{x:Stk κ}(h:SmallStk i x):x.src.length≤i:=by
 have:=asc_len h.asc h.src
 omega
theorem up_mono {b:Bd}{n m:Int}(h:b.Up n)(hn:n≤m):b.Up m:=⟨h.1,h.2.1,Int.le_trans h.2.2 hn⟩
theorem up_left {n a:Bd}{V:Int}(hn:n.Up V)(ha:a.Up 1000):(n.left a).Up V:=by
 have o:=ok_left ⟨hn.1,hn.2.1⟩ ha
 have h:=part_nonneg (x:=n.hi) (a:=a.lo) (Int.le_trans hn.1 hn.2.1) ha.1
 have h2:=hn.2.2
 exact⟨o.1,o.2,by show n.hi-n.hi*a.lo/1000≤V;omega⟩
theorem up_part {n a:Bd}{V:Int}(hn:n.Up V)(ha:a.Up 1000):(n.part a).Up V:=by
 have o:=ok_part (n:=n) (x:=a) ⟨hn.1,hn.2.1⟩ ⟨ha.1,ha.2.1⟩
 have h:=part_le_self (x:=n.hi) (a:=a.hi) (Int.le_trans hn.1 hn.2.1) ha.2.2
 have h2:=hn.2.2
 exact⟨o.1,o.2,by show n.hi*a.hi/1000≤V;omega⟩
theorem up_soak {n a:Bd}{V:Int}(hn:n.Up V)(ha:a.Up 3000):(n.part a).Up (3*V):=by
 have o:=ok_part (n:=n) (x:=a) ⟨hn.1,hn.2.1⟩ ⟨ha.1,ha.2.1⟩
 have h:=part_le_three (x:=n.hi) (b:=a.hi) (Int.le_trans hn.1 hn.2.1) ha.2.2
 have h2:=hn.2.2
 exact⟨o.1,o.2,by show n.hi*a.hi/1000≤3*V;omega⟩
theorem up_add {a b:Bd}{n m:Int}(ha:a.Up n)(hb:b.Up m):(a.add b).Up (n+m):=by
 obtain⟨h1,h2,h3⟩:=ha
 obtain⟨h4,h5,h6⟩:=hb
 exact⟨by show 0≤a.lo+b.lo;omega,by show a.lo+b.lo≤a.hi+b.hi;omega,by show a.hi+b.hi≤n+m;omega⟩
omit [DecidableEq κ]in
theorem SmallStk.more {i:Nat}{x:Stk κ}(h:SmallStk i x):SmallStk (i+1) x:=by
 have hc:=cap_succ i
 have hp:=cap_pos i
 exact⟨up_mono h.dry (by omega),up_mono h.water (by omega),h.piled,h.boiled,h.asc,fun p hp=>by have:=h.src p hp;omega,h.some⟩
omit [DecidableEq κ]in
theorem small_done {i:Nat}{x n:Stk κ}{d:Deed κ}(h:SmallStk i x)(hn:d.kind=6→SmallStk i n)(fd:Fits d)
  (h4:d.kind=4→d.a.lo≤x.dry.hi) (h7:d.kind=7→(x.dry.weighed x.water d.a).lo≤(x.dry.weighed x.water d.a).hi∧(x.water.weighed x.dry d.a).lo≤(x.water.weighed x.dry d.a).hi):SmallStk (i+1) (x.done n d):=by
 have hc:=cap_succ i
 have hp:=cap_pos i
 obtain⟨u1,u2,u3,u4,u5,u6,u7⟩:=h
 have hs:∀ p ∈ x.src,0≤p∧p<((i+1:Nat):Int):=fun p hp=>by have:=u6 p hp;omega
 have hu1:x.dry.Up (cap (i+1)):=up_mono u1 (by omega)
 have hu2:x.water.Up (cap (i+1)):=up_mono u2 (by omega)
 unfold Stk.done
 split;· rename_i e;exact⟨hu1,up_mono (up_left u2 (up_of fd.fine (.inl e))) (by omega),u3,u4,u5,hs,u7⟩
 split
 ·rename_i e
  exact⟨up_mono (up_left u1 (up_of fd.fine (.inr (.inl e)))) (by omega),up_mono (up_add u2 (up_soak u1 ⟨fd.fine.b.1,fd.fine.b.2,fd.soak e⟩)) (by omega),u3,by have:=fd.day;show -1≤d.day∧d.day≤2000;omega,u5,hs,u7⟩
 split
 ·rename_i e
  have o:=ok_scraped (n:=x.dry) (a:=d.a) ⟨u1.1,u1.2.1⟩ fd.fine.a (h4 e)
  refine⟨⟨o.1,o.2,?_⟩,hu2,u3,u4,u5,hs,u7⟩
  have h1:=u1.2.2
  have h2:=fd.fine.a.1
  show x.dry.hi-d.a.lo≤_
  omega
 split;· rename_i e;exact⟨up_mono (up_left u1 (up_of fd.fine (.inr (.inr e)))) (by omega),up_mono (up_left u2 (up_of fd.fine (.inr (.inr e)))) (by omega),u3,u4,u5,hs,u7⟩
 split
 ·rename_i e
  obtain⟨v1,v2,v3,v4,v5,v6,v7⟩:=hn e
  refine⟨up_mono (up_add u1 v1) (by omega),up_mono (up_add u2 v2) (by omega),by show 0≤max _ _∧max _ _≤_;omega,?_,asc_both _ _ u5 v5,fun j hj=>?_,fun e0=>u7 (List.eq_nil_iff_forall_not_mem.2 fun p hp=>by have:=(mem_both x.src n.src p).2 (.inl hp);rw [show both x.src n.src = []from e0]at this;simp at this)⟩
  ·show -1≤lastBoil _ _∧lastBoil _ _≤2000
   unfold lastBoil
   split <;> omega
  ·rcases (mem_both _ _ _).mp hj with hj | hj
   ·have:=u6 j hj;omega
   ·have:=v6 j hj;omega
 split
 ·rename_i e
  have w:=h7 e
  obtain⟨a1,a2,a3⟩:=u1
  obtain⟨b1,b2,b3⟩:=u2
  refine⟨⟨?_,w.1,?_⟩,⟨?_,w.2,?_⟩,u3,u4,u5,hs,u7⟩
  ·show 0≤max _ _;omega
  ·show min _ _≤_;omega
  ·show 0≤max _ _;omega
  ·show min _ _≤_;omega
 ·exact⟨hu1,hu2,u3,u4,u5,hs,u7⟩
omit [DecidableEq κ]in
theorem small_acc {i:Nat}{c:Acc}{x:Stk κ}{d:Deed κ}(h:SmallAcc i c)(hx:SmallStk i x)(fd:Fits d)(h4:d.kind=4→d.a.lo≤x.dry.hi):SmallAcc (i+1) (c.done x d):=by
 have hc:=cap_succ i
 have hp:=cap_pos i
 obtain⟨c1,c2,c3,c4,c5,c6⟩:=h
 have m:∀ {b:Bd},b.Up (cap i)→b.Up (cap (i+1)):=fun h=>up_mono h (by omega)
 unfold Acc.done
 split;· rename_i e;exact⟨up_mono (up_add c1 (up_part hx.water (up_of fd.fine (.inl e)))) (by omega),m c2,m c3,m c4,m c5,m c6⟩
 split;· rename_i e;exact⟨m c1,up_mono (up_add c2 (up_part hx.dry (up_of fd.fine (.inr (.inl e))))) (by omega),m c3,m c4,m c5,up_mono (up_add c6 (up_soak hx.dry ⟨fd.fine.b.1,fd.fine.b.2,fd.soak e⟩)) (by omega)⟩
 split
 ·rename_i e
  have o:=ok_dust (n:=x.dry) (a:=d.a) fd.fine.a (h4 e)
  have h1:=hx.dry.2.2
  exact⟨m c1,m c2,up_mono (up_add c3 (m:=cap i) ⟨o.1,o.2,by show min _ _≤_;omega⟩) (by omega),m c4,m c5,m c6⟩
 split;· exact⟨m c1,m c2,m c3,up_mono (up_add c4 hx.dry) (by omega),up_mono (up_add c5 hx.water) (by omega),m c6⟩
 ·exact⟨m c1,m c2,m c3,m c4,m c5,m c6⟩
theorem small_step {be af:Int}{i:Nat}{s:St κ}{d:Deed κ}(h:SmallSt i s)(fd:Fits d)(fs:fault be af s d=0):SmallSt (i+1) (deed s d i):=by
 have hc:=cap_succ i
 have hp:=cap_pos i
 have h':∀ x ∈ s.stacks,SmallStk (i+1) x:=fun x hx=>(h.stacks x hx).more
 have m:∀ {b:Bd},b.Up (cap i)→b.Up (cap (i+1)):=fun h=>up_mono h (by omega)
 by_cases h1:d.kind=1
 ·rw [deed_one h1]
  refine⟨fun x hx=>?_,m h.acc.1,m h.acc.2,m h.acc.3,m h.acc.4,m h.acc.5,m h.acc.6⟩
  rcases List.mem_append.mp hx with hx | hx
  ·exact h' x hx
  ·rw [List.mem_singleton.mp hx]
   have a8:=fd.a8
   have b8:=fd.b8
   refine⟨⟨fd.fine.a.1,fd.fine.a.2,by show d.a.hi≤_;omega⟩,⟨fd.fine.b.1,fd.fine.b.2,by show d.b.hi≤_;omega⟩,fd.day,by show -1≤(-1:Int)∧(-1:Int)≤2000;omega,List.pairwise_singleton _ _,fun p hp=>?_,by simp [piledUp]⟩
   have:p=(i:Int):=by simpa [piledUp] using hp
   omega
 ·obtain⟨x,n,g⟩:=good_of fs h1
  rw [deed_at h1 g]
  have hx:=h.stacks x (List.mem_of_getElem? g.here)
  refine⟨mem_after h' (small_done hx (fun e=>h.stacks n (List.mem_of_getElem? (g.merge e).1)) fd g.bark g.scale) (fun e=>?_),small_acc h.acc hx fd g.bark⟩
  have ud:d.a.Up 1000:=up_of fd.fine (.inr (.inr e))
  exact⟨m (up_part hx.dry ud),m (up_part hx.water ud),hx.piled,hx.boiled,hx.asc,hx.more.src,hx.some⟩
omit [DecidableEq κ]in
theorem small_empty:SmallSt 0 (.empty:St κ):=by
 have hz:Bd.zero.Up (cap 0):=⟨by decide,by decide,by decide⟩
 exact⟨fun x hx=>by simp [St.empty]at hx,hz,hz,hz,hz,hz,hz⟩
end Go.Proofs.Ytgekekhbhkgekaa.Yd
namespace Go.Proofs.Ytgekekhbhkgekaa
open Go Go.RowKit Yd
open _root_.Go.Value renaming int → Z, string → Zs
open _root_.Go.IntKind renaming i64 → O
def deedCells (d:Deed Code):List Value:=[Z O d.kind,Z O d.day,Zs d.stack,Zs d.other,Z O d.a.lo,Z O d.a.hi,Z O d.b.lo,Z O d.b.hi]
theorem Book.setOwn {w:World}{C:Nat→Prop}{B:Nat}{bef aft:Int}{l:List SRow}{c c':Yd.Acc}{made made':Int}{N:Nat}{kv tv:Value}{m:Nat}(h:Book w C B bef aft l c made N kv tv m)
  (pre old post vs:List Value) (e:bookCells bef aft kv tv m c made=pre++old++post) (e':bookCells bef aft kv tv m c' made'=pre++vs++post) (hl:old.length=vs.length) :
  Book (w.setCells B pre.length vs) C B bef aft l c' made' N kv tv m:=by
 have hb:Blk w B 91 (pre++old++post).toArray:=e ▸ h.blk
 have hk:∀ {base:Nat} {e:TypeId} {size n:Nat} {v:Value} {xs:List Value},w.ownsRow base e size v n xs→91≠e→(w.setCells B pre.length vs).ownsRow base e size v n xs:=fun hr hne =>
  row_same hr (fun g hg=>heap_setCells w B (fun e2=>h.blk.notRow hr hne (by rw [hg,e2])) vs _)
 refine⟨by rw [e'];exact hb.storedMid pre old post vs hl,hk h.keys (by decide),hk h.things (by decide),h.places.same (heap_setCells w B (fun e2=>by have hbb:=h.blk;rw [← e2]at hbb;exact h.places.noBlk hbb) vs _),h.inB,h.inK,h.inT,h.inM,
  fun p hp=>hk (h.froms p hp) (by decide),h.fromsLen,h.codes,h.sizes,h.few,h.room⟩
structure Desk (w0 W:World)(Cx C:Nat→Prop)(B:Nat)(bef aft:Int)(l:List SRow)(c:Yd.Acc)(made:Int)(N:Nat)(kv tv:Value)(m:Nat)(L:List (Nat × TypeId × List Value)):Prop where
 book:Book W C B bef aft l c made N kv tv m
 old:∀ k,C k→k<w0.heap.size
 loc:∀(i g:Nat) (t:TypeId) (cs:List Value),L[i]? = some (g,t,cs)→Blk W g t cs.toArray∧w0.heap.size≤g
 nodup:(L.map (·.1)).Nodup
 beside:Beside Cx w0 W
section
variable {w0 W W':World} {Cx C:Nat→Prop} {B:Nat} {bef aft:Int} {l:List SRow} {c:Yd.Acc} {made:Int} {N:Nat} {kv tv:Value} {m:Nat} {L:List (Nat × TypeId × List Value)}
theorem Desk.start (h:Book w0 C B bef aft l c made N kv tv m)(hC:∀ k,C k→k<w0.heap.size):Desk w0 w0 (fun _=>False) C B bef aft l c made N kv tv m [] :=
 ⟨h,hC,fun i g t cs hi=>by simp at hi,.nil,Beside.refl _ _⟩
theorem Desk.below (h:Desk w0 W Cx C B bef aft l c made N kv tv m L)(hb:Below W.heap.size W W'):Desk w0 W' Cx C B bef aft l c made N kv tv m L :=
 ⟨h.book.below hb,h.old,fun i g t cs hi=>⟨(h.loc i g t cs hi).1.below hb,(h.loc i g t cs hi).2⟩,h.nodup,h.beside.thenBelow hb⟩
theorem Desk.alloc (h:Desk w0 W Cx C B bef aft l c made N kv tv m L)(t:TypeId)(cs:List Value){g:Nat}(hg:W.heap.size=g):Desk w0 (W.alloc (.cells cs.toArray t)) Cx C B bef aft l c made N kv tv m (L++[(g,t,cs)]):=by
 subst hg
 refine⟨h.book.alloc _,h.old,fun i g u ds hi=>?_,?_,h.beside.alloc _⟩
 ·rcases Nat.lt_or_ge i L.length with h1 | h1
  ·rw [List.getElem?_append_left h1]at hi
   exact⟨(h.loc i g u ds hi).1.alloc _,(h.loc i g u ds hi).2⟩
  ·rw [List.getElem?_append_right h1]at hi
   have:i-L.length=0:=by
    rcases Nat.eq_zero_or_pos (i-L.length)with h2 | h2
    ·exact h2
    ·rw [List.getElem?_eq_none (by simp;omega)]at hi;cases hi
   rw [this]at hi
   cases hi
   exact⟨Blk.new W t _,h.beside.size⟩
 ·rw [List.map_append,List.nodup_append]
  refine⟨h.nodup,by simp,fun a ha b hb=>?_⟩
  obtain⟨x,hx,rfl⟩:=List.mem_map.1 ha
  obtain⟨i,hi⟩:=List.mem_iff_getElem?.1 hx
  have:=(h.loc i x.1 x.2.1 x.2.2 hi).1.lt
  simp at hb
  omega
theorem Desk.at (h:Desk w0 W Cx C B bef aft l c made N kv tv m L)(i o:Nat){g:Nat}{t:TypeId}{cs:List Value}{v:Value}(hi:L[i]? = some (g,t,cs))(ho:cs[o]? = some v):W.cell? ⟨g,o,none⟩=some v :=
 (h.loc i g t cs hi).1.at o v (by simpa using ho)
theorem Desk.own (h:Desk w0 W Cx C B bef aft l c made N kv tv m L)(o:Nat){v:Value}(ho:(bookCells bef aft kv tv m c made)[o]? = some v):W.cell? ⟨B,o,none⟩=some v :=
 h.book.blk.at o v (by simpa using ho)
theorem Desk.far (h:Desk w0 W Cx C B bef aft l c made N kv tv m L)(i:Nat){g:Nat}{t:TypeId}{cs:List Value}(hi:L[i]? = some (g,t,cs)):w0.heap.size≤g∧g<W.heap.size∧¬ C g∧g≠B :=
 have h2:=(h.loc i g t cs hi).2
 ⟨h2,(h.loc i g t cs hi).1.lt,fun e=>by have:=h.old g e;omega,fun e=>by have:=h.old B h.book.inB;omega⟩
theorem Desk.setLoc (h:Desk w0 W Cx C B bef aft l c made N kv tv m L)(i:Nat){g:Nat}{t:TypeId}(pre old post vs:List Value)(hi:L[i]? = some (g,t,pre++old++post))(hl:old.length=vs.length)(ht:t≠3) :
  Desk w0 (W.setCells g pre.length vs) Cx C B bef aft l c made N kv tv m (L.set i (g,t,pre++vs++post)):=by
 obtain⟨hb,hg⟩:=h.loc i g t _ hi
 have hil:i<L.length:=(List.getElem?_eq_some_iff.1 hi).1
 have hs:∀ k,k≠g→(W.setCells g pre.length vs).heap[k]? = W.heap[k]? := fun k hk=>heap_setCells W g hk vs _
 have hnC:∀ k,C k→k≠g:=fun k hk e=>by have:=h.old k hk;omega
 refine⟨?_,h.old,fun j g' u ds hj=>?_,?_,h.beside.setCells (.inr hg) _ _⟩
 ·refine⟨(hs B (hnC B h.book.inB)).trans h.book.blk,row_same h.book.keys (fun k hk=>hs k (hnC k (h.book.inK k hk))),row_same h.book.things (fun k hk=>hs k (hnC k (h.book.inT k hk))),h.book.places.same (hs m (hnC m h.book.inM)),
   h.book.inB,h.book.inK,h.book.inT,h.book.inM,fun p hp=>row_same (h.book.froms p hp) (fun k hk=>?_),h.book.fromsLen,h.book.codes,h.book.sizes,h.book.few,h.book.room⟩
  exact hs k (fun e=>hb.notRow (h.book.froms p hp) ht (by rw [hk,e]))
 ·by_cases e:j=i
  ·subst e
   rw [List.getElem?_set_self hil]at hj
   cases hj
   exact⟨hb.storedMid pre old post vs hl,hg⟩
  ·rw [List.getElem?_set_ne (Ne.symm e)]at hj
   obtain⟨h1,h2⟩:=h.loc j g' u ds hj
   refine⟨h1.apart (fun e2=>e ?_) _ _,h2⟩
   subst e2
   have hn:=List.pairwise_iff_getElem.1 h.nodup
   have hjl:j<L.length:=(List.getElem?_eq_some_iff.1 hj).1
   have e1:(L.map (·.1))[j]'(by simpa using hjl)=g':=by rw [List.getElem_map,(List.getElem?_eq_some_iff.1 hj).2]
   have e2:(L.map (·.1))[i]'(by simpa using hil)=g':=by rw [List.getElem_map,(List.getElem?_eq_some_iff.1 hi).2]
   rcases Nat.lt_trichotomy j i with h3 | h3 | h3
   ·exact absurd (e1.trans e2.symm) (hn j i (by simpa using hjl) (by simpa using hil) h3)
   ·exact h3
   ·exact absurd (e2.trans e1.symm) (hn i j (by simpa using hil) (by simpa using hjl) h3)
 ·have:(L.set i (g,t,pre++vs++post)).map (·.1)=L.map (·.1):=by
   rw [List.map_set]
   refine List.ext_getElem? fun j=>?_
   by_cases e:i=j
   ·subst e
    rw [List.getElem?_set_self (by simpa using hil),List.getElem?_map,hi]
    rfl
   ·rw [List.getElem?_set_ne e]
  rw [this]
  exact h.nodup
theorem Desk.put (h:Desk w0 W Cx C B bef aft l c made N kv tv m L)(i o:Nat)(vs:List Value)(hi:decide (i<L.length∧o+vs.length≤(L.getD i (0,0,[])).2.2.length∧(L.getD i (0,0,[])).2.1≠3)=true):Desk w0 (W.setCells (L.getD i (0,0,[])).1 o vs) Cx C B bef aft l c made N kv tv m (L.set i ((L.getD i (0,0,[])).1,(L.getD i (0,0,[])).2.1,(L.getD i (0,0,[])).2.2.take o++vs++(L.getD i (0,0,[])).2.2.drop (o+vs.length))):=by
 obtain⟨hi,hl,ht⟩:=of_decide_eq_true hi
 have e0:L[i]? = some (L.getD i (0,0,[])):=by rw [List.getD_eq_getElem?_getD,List.getElem?_eq_getElem hi];rfl
 generalize L.getD i (0,0,[])=x at e0 hl ht ⊢
 obtain⟨g,t,cs⟩:=x
 have e:L[i]? = some (g,t,cs.take o++(cs.drop o).take vs.length++cs.drop (o+vs.length)):=by
  rw [e0,List.append_assoc,← List.drop_drop,List.take_append_drop,List.take_append_drop]
 have:=h.setLoc i _ _ _ vs e (by rw [List.length_take,List.length_drop];simp only at hl;omega) ht
 rwa [List.length_take,Nat.min_eq_left (by simp only at hl;omega)]at this
theorem Desk.setLoc1 (h:Desk w0 W Cx C B bef aft l c made N kv tv m L)(i:Nat){g:Nat}{t:TypeId}(pre post:List Value)(old v:Value)(o:Nat)(ho:pre.length=o)(hi:L[i]? = some (g,t,pre++[old]++post))(ht:t≠3) :
  Desk w0 (W.setCell ⟨g,o,none⟩ v) Cx C B bef aft l c made N kv tv m (L.set i (g,t,pre++[v]++post)):=by
 subst ho
 exact h.setLoc i pre [old] post [v] hi rfl ht
theorem Desk.setOwn (h:Desk w0 W Cx C B bef aft l c made N kv tv m L)(pre old post vs:List Value){c':Yd.Acc}{made':Int}(e:bookCells bef aft kv tv m c made=pre++old++post)(e':bookCells bef aft kv tv m c' made'=pre++vs++post)
  (hl:old.length=vs.length) (hx:∀ k,Cx k→C k):Desk w0 (W.setCells B pre.length vs) C C B bef aft l c' made' N kv tv m L :=
 ⟨h.book.setOwn pre old post vs e e' hl,h.old,fun i g t cs hi=>⟨(h.loc i g t cs hi).1.apart (h.far i hi).2.2.2 _ _,(h.loc i g t cs hi).2⟩,h.nodup,(h.beside.mono hx).setCells (.inl h.book.inB) _ _⟩
theorem Desk.quiet (h:Desk w0 W (fun _=>False) C B bef aft l c made N kv tv m L):Below w0.heap.size w0 W:=h.beside.below (fun _ f=>f.elim) (Nat.le_refl _)
theorem Desk.lt (h:Desk w0 W Cx C B bef aft l c made N kv tv m L):B<w0.heap.size:=h.old B h.book.inB
end
theorem regrown_calls {P:Program}{f:FuncId}{args:Array Value}{W:World}{v:Value}(h:∀ w,Calls P f args w fun e w'=>e=.returned v∧Below w.heap.size w w') :
  ∀ d os,Calls P f args (Go.Sort.grow (redrawn W d) os) fun e w''=>e=.returned v∧∃ p:Regrown,w''=Go.Sort.grow (redrawn W p.d) p.os:=fun _ _=>Calls.regrown_of (h _)
end Go.Proofs.Ytgekekhbhkgekaa
