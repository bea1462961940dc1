/- The yard: what its deeds do, as plain functions on lists; nothing of the program. -/
import Derived.Lib.ItoaNum
namespace Go.Proofs.Ytgekekhbhkgekaa.Yd
inductive All2 {α β:Type}(R:α→β→Prop):List α→List β→Prop
 | nil:All2 R [] []
 | cons {a b l m}:R a b→All2 R l m→All2 R (a :: l) (b :: m)
namespace All2
variable {α β:Type} {R:α→β→Prop}
theorem append {l:List α}{m:List β}{l':List α}{m':List β}(h:All2 R l m)(h':All2 R l' m'):All2 R (l++l') (m++m'):=by
 induction h with
 | nil=>exact h'
 | cons r _ ih=>exact .cons r ih
theorem set {l:List α}{m:List β}{a:α}{b:β}(h:All2 R l m)(hr:R a b)(k:Nat):All2 R (l.set k a) (m.set k b):=by
 induction h generalizing k with
 | nil=>exact .nil
 | cons r t ih =>
   cases k with
   | zero=>exact .cons hr t
   | succ k=>exact .cons r (ih k)
theorem find {l:List α}{m:List β}(h:All2 R l m){p:α→Bool}{q:β→Bool}(hp:∀ a b,R a b→p a=q b):l.findIdx p=m.findIdx q:=by
 induction h with
 | nil=>rfl
 | cons r _ ih=>simp only [List.findIdx_cons,hp _ _ r,ih]
theorem imp {S:α→β→Prop}{l:List α}{m:List β}(h:All2 R l m)(hi:∀ a b,R a b→S a b):All2 S l m:=by
 induction h with
 | nil=>exact .nil
 | cons r _ ih=>exact .cons (hi _ _ r) ih
end All2
structure Bd where
 lo:Int
 hi:Int
deriving DecidableEq
namespace Bd
def zero:Bd:=⟨0,0⟩
def add (a b:Bd):Bd:=⟨a.lo+b.lo,a.hi+b.hi⟩
def part (n x:Bd):Bd:=⟨n.lo*x.lo/1000,n.hi*x.hi/1000⟩
def left (n x:Bd):Bd:=⟨n.lo-n.lo*x.hi/1000,n.hi-n.hi*x.lo/1000⟩
def weighed (n o s:Bd):Bd:=⟨max n.lo (s.lo-o.hi),min n.hi (s.hi-o.lo)⟩
def scraped (n a:Bd):Bd:=⟨max 0 (n.lo-a.hi),n.hi-a.lo⟩
def dust (n a:Bd):Bd:=⟨a.lo,min a.hi n.hi⟩
def Ok (b:Bd):Prop:=0≤b.lo∧b.lo≤b.hi
def Up (b:Bd)(n:Int):Prop:=0≤b.lo∧b.lo≤b.hi∧b.hi≤n
end Bd
theorem part_le {x y a b:Int}(hx:0≤x)(hxy:x≤y)(ha:0≤a)(hab:a≤b):x*a/1000≤y*b/1000 :=
 Int.ediv_le_ediv (by decide) (Int.mul_le_mul hxy hab ha (Int.le_trans hx hxy))
theorem part_nonneg {x a:Int}(hx:0≤x)(ha:0≤a):0≤x*a/1000:=Int.ediv_nonneg (Int.mul_nonneg hx ha) (by decide)
theorem part_le_self {x a:Int}(hx:0≤x)(ha:a≤1000):x*a/1000≤x:=by
 have h:x*a≤x*1000:=Int.mul_le_mul_of_nonneg_left ha hx
 have:=Int.ediv_le_ediv (c:=1000) (by decide) h
 rw [Int.mul_ediv_cancel _ (by decide)]at this
 exact this
theorem left_le_x {x y a:Int}(hxy:x≤y)(h1:a≤1000):x-x*a/1000≤y-y*a/1000:=by
 have h:y*a=x*a+(y-x)*a:=by rw [← Int.add_mul];congr 1;omega
 have h2:(y-x)*a≤(y-x)*1000:=Int.mul_le_mul_of_nonneg_left h1 (by omega)
 have h3:y*a/1000≤(x*a+(y-x)*1000)/1000:=Int.ediv_le_ediv (by decide) (by omega)
 rw [Int.add_mul_ediv_right _ _ (by decide)]at h3
 omega
theorem left_le {x y a b:Int}(hy:0≤y)(hxy:x≤y)(h1:a≤1000)(ha:b≤a)(h0:0≤b):x-x*a/1000≤y-y*b/1000:=by
 have h:=left_le_x hxy h1
 have h2:=part_le hy (Int.le_refl y) h0 ha
 omega
theorem ok_add {a b:Bd}(ha:a.Ok)(hb:b.Ok):(a.add b).Ok:=by unfold Bd.Ok Bd.add at *;simp only;omega
theorem ok_part {n x:Bd}(hn:n.Ok)(hx:x.Ok):(n.part x).Ok:=⟨part_nonneg hn.1 hx.1,part_le hn.1 hn.2 hx.1 hx.2⟩
theorem ok_left {n x:Bd}(hn:n.Ok)(hx:x.Up 1000):(n.left x).Ok:=by
 refine⟨?_,left_le (Int.le_trans hn.1 hn.2) hn.2 hx.2.2 hx.2.1 hx.1⟩
 have:=part_le_self hn.1 hx.2.2
 show 0≤n.lo-n.lo*x.hi/1000
 omega
theorem ok_scraped {n a:Bd}(hn:n.Ok)(ha:a.Ok)(h:a.lo≤n.hi):(n.scraped a).Ok:=by unfold Bd.Ok Bd.scraped at *;simp only;omega
theorem ok_dust {n a:Bd}(ha:a.Ok)(h:a.lo≤n.hi):(n.dust a).Ok:=by unfold Bd.Ok Bd.dust at *;simp only;omega
structure Stk (κ:Type) where
 code:κ
 dry:Bd
 water:Bd
 piled:Int
 boiled:Int
 src:List Int
structure Deed (κ:Type) where
 kind:Int
 day:Int
 stack:κ
 other:κ
 a:Bd
 b:Bd
structure Acc where
 vapour:Bd
 broth:Bd
 dust:Bd
 soldDry:Bd
 soldWater:Bd
 soaked:Bd
deriving DecidableEq
def Acc.zero:Acc:=⟨.zero,.zero,.zero,.zero,.zero,.zero⟩
structure St (κ:Type) where
 stacks:List (Stk κ)
 acc:Acc
variable {κ:Type} [DecidableEq κ]
def St.empty:St κ:=⟨[],.zero⟩
def at_ (l:List (Stk κ))(c:κ):Nat:=l.findIdx fun x=>decide (x.code=c)
def both:List Int→List Int→List Int
 | [],m=>m
 | a :: l,[] => a :: l
 | a :: l,b :: m=>if a<b then a :: both l (b :: m)else if b<a then b :: both (a :: l) m else a :: both l m
termination_by l m=>l.length+m.length
theorem mem_both (l m:List Int)(p:Int):p ∈ both l m↔p ∈ l∨p ∈ m:=by
 fun_induction both l m with
 | case1 m=>simp
 | case2 a l=>simp
 | case3 a l b m h ih=>simp only [List.mem_cons,ih];grind
 | case4 a l b m h h' ih=>simp only [List.mem_cons,ih];grind
 | case5 a l b m h h' ih =>
   have:a=b:=by omega
   subst this
   simp only [List.mem_cons,ih];grind
def lastBoil (a b:Int):Int:=if a<0∨b<0 then -1 else max a b
def Stk.done (x n:Stk κ)(d:Deed κ):Stk κ :=
 if d.kind=2 then { x with water:=x.water.left d.a }
 else if d.kind=3 then { x with dry:=x.dry.left d.a,water:=x.water.add (x.dry.part d.b),boiled:=d.day }
 else if d.kind=4 then { x with dry:=x.dry.scraped d.a }
 else if d.kind=5 then { x with dry:=x.dry.left d.a,water:=x.water.left d.a }
 else if d.kind=6 then { x with dry:=x.dry.add n.dry,water:=x.water.add n.water,piled:=max x.piled n.piled,boiled:=lastBoil x.boiled n.boiled,src:=both x.src n.src }
 else if d.kind=7 then { x with dry:=x.dry.weighed x.water d.a,water:=x.water.weighed x.dry d.a }
 else x
def Acc.done (c:Acc)(x:Stk κ)(d:Deed κ):Acc :=
 if d.kind=2 then { c with vapour:=c.vapour.add (x.water.part d.a) }
 else if d.kind=3 then { c with broth:=c.broth.add (x.dry.part d.a),soaked:=c.soaked.add (x.dry.part d.b) }
 else if d.kind=4 then { c with dust:=c.dust.add (x.dry.dust d.a) }
 else if d.kind=8 then { c with soldDry:=c.soldDry.add x.dry,soldWater:=c.soldWater.add x.water }
 else c
def Stk.cut (x:Stk κ)(d:Deed κ):Stk κ:={ x with code:=d.other,dry:=x.dry.part d.a,water:=x.water.part d.a }
def piledUp (d:Deed κ)(i:Int):Stk κ:=⟨d.stack,d.a,d.b,d.day,-1,[i]⟩
def after {α:Type}(l:List α)(x cut:α)(kind:Int)(k o:Nat):List α :=
 if kind=5 then(l++[cut]).set k x
 else if kind=6 then(l.set k x).eraseIdx o
 else if kind=8 then(l.set k x).eraseIdx k
 else l.set k x
def deed (s:St κ)(d:Deed κ)(i:Int):St κ :=
 if d.kind=1 then⟨s.stacks++[piledUp d i],s.acc⟩
 else match s.stacks[at_ s.stacks d.stack]? with
  | none=>s
  | some x =>
    let n:=(s.stacks[at_ s.stacks d.other]?).getD x
    ⟨after s.stacks (x.done n d) (x.cut d) d.kind (at_ s.stacks d.stack) (at_ s.stacks d.other),s.acc.done x d⟩
def fault (before aft:Int)(s:St κ)(d:Deed κ):Int :=
 if (decide (at_ s.stacks d.stack<s.stacks.length)=decide (d.kind=1))∨((d.kind=5∨d.kind=6)∧d.other=d.stack)
  ∨ (d.kind=5∧at_ s.stacks d.other<s.stacks.length)∨(d.kind=6∧¬ at_ s.stacks d.other<s.stacks.length)then 1
 else if (d.kind=1∨d.kind=5)∧8≤s.stacks.length then 2
 else match s.stacks[at_ s.stacks d.stack]? with
  | none=>0
  | some x =>
    if d.kind=3∧d.day-x.piled<before then 3
    else if (d.kind=4∨d.kind=8)∧(x.boiled<0∨d.day-x.boiled<aft)then 3
    else if d.kind=4∧x.dry.hi<d.a.lo then 4
    else if d.kind=7∧((x.dry.weighed x.water d.a).hi<(x.dry.weighed x.water d.a).lo∨(x.water.weighed x.dry d.a).hi<(x.water.weighed x.dry d.a).lo)then 5
    else 0
def run (before aft:Int):St κ→Nat→List (Deed κ)→St κ × Nat × Int
 | s,i,[] =>(s,i,0)
 | s,i,d :: ds=>if fault before aft s d=0 then run before aft (deed s d i) (i+1) ds else(s,i,fault before aft s d)
structure Deed.Fine (d:Deed κ):Prop where
 kind:1≤d.kind∧d.kind≤8
 a:d.a.Ok
 b:d.b.Ok
 thousand:d.kind=2∨d.kind=3∨d.kind=5→d.a.hi≤1000
theorem run_count (be af:Int):∀(ds:List (Deed κ)) (s:St κ) (i:Nat),
  i≤(run be af s i ds).2.1∧(run be af s i ds).2.1≤i+ds.length∧((run be af s i ds).2.2=0↔(run be af s i ds).2.1=i+ds.length)
 | [],s,i=>by simp [run]
 | d :: ds,s,i=>by
   simp only [run,List.length_cons]
   split
   ·have:=run_count be af ds (deed s d i) (i+1)
    omega
   ·rename_i h
    simp only [h,false_iff]
    omega
def follow (be af:Int)(ds:List (Deed κ))(n:Nat):St κ × Nat × Int:=run be af .empty 0 (ds.take n)
theorem follow_count (be af:Int)(ds:List (Deed κ)){n:Nat}(hn:n≤ds.length) :
  (follow be af ds n).2.1≤n∧((follow be af ds n).2.2=0↔(follow be af ds n).2.1=n):=by
 have:=run_count be af (ds.take n) .empty 0
 rw [List.length_take,Nat.min_eq_left hn]at this
 unfold follow
 omega
structure Good (s:St κ)(d:Deed κ)(x n:Stk κ):Prop where
 here:s.stacks[at_ s.stacks d.stack]? = some x
 other:n=(s.stacks[at_ s.stacks d.other]?).getD x
 merge:d.kind=6→s.stacks[at_ s.stacks d.other]? = some n∧d.other≠d.stack
 split:d.kind=5→¬ at_ s.stacks d.other<s.stacks.length
 bark:d.kind=4→d.a.lo≤x.dry.hi
 scale:d.kind=7→(x.dry.weighed x.water d.a).lo≤(x.dry.weighed x.water d.a).hi∧(x.water.weighed x.dry d.a).lo≤(x.water.weighed x.dry d.a).hi
theorem at_lt {l:List (Stk κ)}{c:κ}(h:at_ l c<l.length):∃ x,l[at_ l c]? = some x∧x.code=c:=by
 refine⟨l[at_ l c],List.getElem?_eq_getElem h,?_⟩
 have h':l.findIdx (fun x=>decide (x.code=c))<l.length:=h
 have:=List.findIdx_getElem (w:=h')
 simpa [at_] using this
theorem good_of {be af:Int}{s:St κ}{d:Deed κ}(h:fault be af s d=0)(hk:d.kind≠1):∃ x n,Good s d x n:=by
 unfold fault at h
 by_cases h1:(decide (at_ s.stacks d.stack<s.stacks.length)=decide (d.kind=1))∨((d.kind=5∨d.kind=6)∧d.other=d.stack)
  ∨ (d.kind=5∧at_ s.stacks d.other<s.stacks.length)∨(d.kind=6∧¬ at_ s.stacks d.other<s.stacks.length)
 ·rw [if_pos h1]at h;exact absurd h (by decide)
 rw [if_neg h1]at h
 simp only [not_or,hk,decide_false,decide_eq_false_iff_not,Classical.not_not,not_and]at h1
 obtain⟨hs,hne,hsp,hmg⟩:=h1
 split at h
 ·exact absurd h (by decide)
 obtain⟨x,hx,_⟩:=at_lt hs
 rw [hx]at h
 simp only at h
 refine⟨x,_,hx,rfl,?_,?_,?_,?_⟩
 ·intro h6
  obtain⟨n,hn,_⟩:=at_lt (hmg h6)
  rw [hn]
  exact⟨rfl,hne (.inr h6)⟩
 ·exact hsp
 ·intro h4
  split at h;· exact absurd h (by decide)
  split at h;· exact absurd h (by decide)
  split at h;· exact absurd h (by decide)
  rename_i hb
  simp only [h4,true_and]at hb
  omega
 ·intro h7
  split at h;· exact absurd h (by decide)
  split at h;· exact absurd h (by decide)
  split at h;· exact absurd h (by decide)
  split at h;· exact absurd h (by decide)
  rename_i hb
  simp only [h7,true_and,not_or]at hb
  omega
theorem All2.at_ {R:Stk κ→Stk κ→Prop}{l m:List (Stk κ)}(h:All2 R l m)(hc:∀ a b,R a b→a.code=b.code)(c:κ):at_ l c=at_ m c :=
 h.find fun a b r=>by rw [hc a b r]
omit [DecidableEq κ]in
theorem up_of {d:Deed κ}(h:d.Fine)(hk:d.kind=2∨d.kind=3∨d.kind=5):d.a.Up 1000:=⟨h.a.1,h.a.2,h.thousand hk⟩
theorem deed_one {s:St κ}{d:Deed κ}{i:Int}(h:d.kind=1):deed s d i=⟨s.stacks++[piledUp d i],s.acc⟩:=by unfold deed;rw [if_pos h]
theorem deed_at {s:St κ}{d:Deed κ}{i:Int}{x n:Stk κ}(h:d.kind≠1)(g:Good s d x n) :
  deed s d i=⟨after s.stacks (x.done n d) (x.cut d) d.kind (at_ s.stacks d.stack) (at_ s.stacks d.other),s.acc.done x d⟩:=by
 unfold deed
 rw [if_neg h,g.here]
 simp only [← g.other]
structure Pile (κ:Type) where
 code:κ
 dry:Int
 water:Int
structure Real (κ:Type) where
 stacks:List (Pile κ)
 vapour:Int
 broth:Int
 dust:Int
 soldDry:Int
 soldWater:Int
 soaked:Int
 piledDry:Int
 piledWater:Int
def Real.empty:Real κ:=⟨[],0,0,0,0,0,0,0,0⟩
def find (l:List (Pile κ))(c:κ):Nat:=l.findIdx fun x=>decide (x.code=c)
def Pile.done (x n:Pile κ)(d:Deed κ)(a b:Int):Pile κ :=
 if d.kind=2 then { x with water:=x.water-x.water*a/1000 }
 else if d.kind=3 then { x with water:=x.water+x.dry*b/1000,dry:=x.dry-x.dry*a/1000 }
 else if d.kind=4 then { x with dry:=x.dry-a }
 else if d.kind=5 then { x with dry:=x.dry-x.dry*a/1000,water:=x.water-x.water*a/1000 }
 else if d.kind=6 then { x with dry:=x.dry+n.dry,water:=x.water+n.water }
 else x
def Pile.cut (x:Pile κ)(d:Deed κ)(a:Int):Pile κ:=⟨d.other,x.dry*a/1000,x.water*a/1000⟩
def Real.booked (r:Real κ)(l:List (Pile κ))(x:Pile κ)(d:Deed κ)(a b:Int):Real κ :=
 if d.kind=2 then { r with stacks:=l,vapour:=r.vapour+x.water*a/1000 }
 else if d.kind=3 then { r with stacks:=l,broth:=r.broth+x.dry*a/1000,soaked:=r.soaked+x.dry*b/1000 }
 else if d.kind=4 then { r with stacks:=l,dust:=r.dust+a }
 else if d.kind=8 then { r with stacks:=l,soldDry:=r.soldDry+x.dry,soldWater:=r.soldWater+x.water }
 else { r with stacks:=l }
def Real.act (r:Real κ)(d:Deed κ)(a b:Int):Option (Real κ) :=
 if d.kind=1 then some { r with stacks:=r.stacks++[⟨d.stack,a,b⟩],piledDry:=r.piledDry+a,piledWater:=r.piledWater+b }
 else match r.stacks[find r.stacks d.stack]? with
  | none=>none
  | some x =>
    if d.kind=4∧x.dry<a then none
    else if d.kind=6∧¬ find r.stacks d.other<r.stacks.length then none
    else if d.kind=7∧¬ (d.a.lo≤x.dry+x.water∧x.dry+x.water≤d.a.hi)then none
    else
     let n:=(r.stacks[find r.stacks d.other]?).getD x
     some (r.booked (after r.stacks (x.done n d a b) (x.cut d a) d.kind (find r.stacks d.stack) (find r.stacks d.other)) x d a b)
def Real.run (ab:Nat→Int × Int):Real κ→Nat→List (Deed κ)→Option (Real κ)
 | r,_,[] => some r
 | r,i,d :: ds=>(r.act d (ab i).1 (ab i).2).bind fun r'=>Real.run ab r' (i+1) ds
def moistLo (x:Stk κ):Int:=x.water.lo*1000/x.dry.hi
def moistHi (x:Stk κ):Int:=(x.water.hi*1000+x.dry.lo-1)/x.dry.lo
def Quiet (d:Deed κ):Prop:=d.kind=2∨d.kind=3∨d.kind=4∨d.kind=7
omit [DecidableEq κ]in
theorem done_quiet {x n m:Stk κ}{d:Deed κ}(h:Quiet d):x.done n d=x.done m d:=by
 unfold Quiet at h
 unfold Stk.done
 repeat' split
 all_goals first | rfl | omega
theorem deed_quiet {s:St κ}{d:Deed κ}{x:Stk κ}(h:Quiet d)(hx:s.stacks[at_ s.stacks d.stack]? = some x)(i:Int) :
  deed s d i=⟨s.stacks.set (at_ s.stacks d.stack) (x.done x d),s.acc.done x d⟩:=by
 have hq:=h
 unfold Quiet at hq
 unfold deed
 rw [if_neg (by omega),hx]
 simp only
 unfold after
 rw [if_neg (by omega),if_neg (by omega),if_neg (by omega),done_quiet h]
structure Rooted (all:List (Deed κ))(i:Nat)(x:Stk κ):Prop where
 src:∀ j ∈ x.src,0≤j∧j.toNat<i∧∃ d,all[j.toNat]? = some d∧d.kind=1∧d.day≤x.piled
 dry:x.dry.Ok
 water:x.water.Ok
omit [DecidableEq κ]in
theorem Rooted.more {all:List (Deed κ)}{i k:Nat}{x:Stk κ}(h:Rooted all i x)(hik:i≤k):Rooted all k x :=
 ⟨fun j hj=>by obtain⟨h1,h2,h3⟩:=h.src j hj;exact⟨h1,by omega,h3⟩,h.dry,h.water⟩
theorem mem_after {α:Type}{l:List α}{x c:α}{kind:Int}{k o:Nat}{P:α→Prop}(h:∀ a ∈ l,P a)(hx:P x)(hc:kind=5→P c):∀ a ∈ after l x c kind k o,P a:=by
 have hs:∀(m:List α) (k:Nat),(∀ a ∈ m,P a)→∀ a ∈ m.set k x,P a:=fun m k hm a ha=>by
  rcases List.mem_or_eq_of_mem_set ha with h1 | h1
  ·exact hm a h1
  ·exact h1 ▸ hx
 unfold after
 split
 ·rename_i h5
  refine hs _ _ fun a ha=>?_
  rcases List.mem_append.mp ha with h1 | h1
  ·exact h a h1
  ·rw [List.mem_singleton.mp h1];exact hc h5
 split
 ·exact fun a ha=>hs _ _ h a (List.mem_of_mem_eraseIdx ha)
 split
 ·exact fun a ha=>hs _ _ h a (List.mem_of_mem_eraseIdx ha)
 ·exact hs _ _ h
omit [DecidableEq κ]in
theorem rooted_done {all:List (Deed κ)}{i:Nat}{x n:Stk κ}{d:Deed κ}(h:Rooted all i x)(hn:d.kind=6→Rooted all i n)(fd:d.Fine)
  (h4:d.kind=4→d.a.lo≤x.dry.hi) (h7:d.kind=7→(x.dry.weighed x.water d.a).lo≤(x.dry.weighed x.water d.a).hi∧(x.water.weighed x.dry d.a).lo≤(x.water.weighed x.dry d.a).hi):Rooted all i (x.done n d):=by
 obtain⟨s,o1,o2⟩:=h
 unfold Stk.done
 split;· rename_i e;exact⟨s,o1,ok_left o2 (up_of fd (.inl e))⟩
 split;· rename_i e;exact⟨s,ok_left o1 (up_of fd (.inr (.inl e))),ok_add o2 (ok_part o1 fd.b)⟩
 split;· rename_i e;exact⟨s,ok_scraped o1 fd.a (h4 e),o2⟩
 split;· rename_i e;exact⟨s,ok_left o1 (up_of fd (.inr (.inr e))),ok_left o2 (up_of fd (.inr (.inr e)))⟩
 split
 ·rename_i e
  obtain⟨s',o1',o2'⟩:=hn e
  refine⟨fun j hj=>?_,ok_add o1 o1',ok_add o2 o2'⟩
  rcases (mem_both _ _ _).mp hj with hj | hj
  ·obtain⟨a1,a2,d',a3,a4,a5⟩:=s j hj
   exact⟨a1,a2,d',a3,a4,by show _≤max _ _;omega⟩
  ·obtain⟨a1,a2,d',a3,a4,a5⟩:=s' j hj
   exact⟨a1,a2,d',a3,a4,by show _≤max _ _;omega⟩
 split
 ·rename_i e
  have w:=h7 e
  refine⟨s,⟨?_,w.1⟩,⟨?_,w.2⟩⟩ <;> (unfold Bd.Ok Bd.weighed at *;simp only at *;omega)
 ·exact⟨s,o1,o2⟩
theorem rooted_step {be af:Int}{all:List (Deed κ)}{i:Nat}{s:St κ}{d:Deed κ}(h:∀ x ∈ s.stacks,Rooted all i x)(hd:all[i]? = some d)(fd:d.Fine)(fs:fault be af s d=0) :
  ∀ x ∈ (deed s d i).stacks,Rooted all (i+1) x:=by
 have h':∀ x ∈ s.stacks,Rooted all (i+1) x:=fun x hx=>(h x hx).more (by omega)
 by_cases h1:d.kind=1
 ·rw [deed_one h1]
  intro x hx
  rcases List.mem_append.mp hx with hx | hx
  ·exact h' x hx
  ·rw [List.mem_singleton.mp hx]
   refine⟨fun j hj=>?_,fd.a,fd.b⟩
   have:j=(i:Int):=by simpa [piledUp] using hj
   subst this
   exact⟨by omega,by omega,d,by simpa using hd,h1,Int.le_refl _⟩
 ·obtain⟨x,n,g⟩:=good_of fs h1
  rw [deed_at h1 g]
  have hx:=h' x (List.mem_of_getElem? g.here)
  have ud:d.kind=5→d.a.Up 1000:=fun e=>up_of fd (.inr (.inr e))
  exact mem_after h' (rooted_done hx (fun e=>h' n (List.mem_of_getElem? (g.merge e).1)) fd g.bark g.scale)
   (fun _=>⟨hx.src,ok_part hx.dry fd.a,ok_part hx.water fd.a⟩)
theorem rooted_run {be af:Int}{all:List (Deed κ)}:∀ {ds:List (Deed κ)} {s:St κ} {i:Nat},(∀ x ∈ s.stacks,Rooted all i x)→(∀ j (h:j<ds.length),all[i+j]? = some ds[j])→
  (∀ d ∈ ds,d.Fine)→∀ x ∈ (run be af s i ds).1.stacks,Rooted all (run be af s i ds).2.1 x
 | [],s,i,h,_,_=>h
 | d :: ds,s,i,h,ha,hf=>by
   simp only [run]
   split
   ·rename_i f0
    refine rooted_run (rooted_step h (ha 0 (Nat.succ_pos _)) (hf d (by simp)) f0) (fun j hj=>?_) (fun e he=>hf e (by simp [he]))
    have:=ha (j+1) (by simpa using hj)
    simpa [show i+1+j=i+(j+1) by omega] using this
   ·exact h
end Go.Proofs.Ytgekekhbhkgekaa.Yd
