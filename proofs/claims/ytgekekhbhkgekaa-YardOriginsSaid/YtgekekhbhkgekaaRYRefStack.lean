/- Rows of stacks of the call's own; what a standing keeps. -/
import Derived.Test.YtgekekhbhkgekaaRYRefFault
import Derived.Test.YtgekekhbhkgekaaRYRefRows
import Derived.Laws.AppendOwnNone
namespace Go.Proofs.Ytgekekhbhkgekaa
open Go Go.RowKit Go.Shelf Yd
open Go.Value renaming int→Z,slice→Zl
open Go.IntKind renaming i64→O
instance instSRow:Inhabited SRow:=⟨(⟨⟨#[]⟩,⟨0,0⟩,⟨0,0⟩,0,0,[]⟩,Zl none 0 0)⟩
theorem size_account:(Try.prog.info? 34).map (·.size)=some 12:=by kernel_rfl
theorem row_eight (p:SRow):(rowCells p).length=8:=rfl
theorem flat_rows (l:List SRow):flat rowCells l=rowsCells l:=by simp [flat,rowsCells,List.flatMap]
theorem row_onesS {l:List SRow}(hv:∀ p ∈ l,∃ a n c,p.2=Zl a n c):∀ u ∈ flat rowCells l,u.oneCell'=true:=by
 intro u hu
 obtain⟨cs,hcs,hu2⟩:=List.mem_flatten.1 hu
 obtain⟨p,hp,rfl⟩:=List.mem_map.1 hcs
 obtain⟨a,n,c,hpv⟩:=hv p hp
 simp only [rowCells,stkCells,List.mem_cons,List.not_mem_nil,or_false]at hu2
 rcases hu2 with rfl | rfl | rfl | rfl | rfl | rfl | rfl | rfl <;> first | rfl | (rw [hpv];rfl)
theorem from_slices {w:World}{rows:List SRow}{tv:Value}(h:Stands w rows tv):∀ p ∈ rows,∃ a n c,p.2=Zl a n c:=fun p hp=>by
 obtain⟨a,n,c,hv⟩:=row_slice (h.froms p hp)
 exact⟨a,n,c,hv⟩
theorem stands_kept {w w':World}{rows rows':List SRow}{tv tv':Value}(h:Stands w rows tv)(hb:Below w.heap.size w w')(ht:w'.ownsRow 0 49 8 tv' rows'.length (rowsCells rows'))
  (hf:∀ p ∈ rows',(∃ q ∈ rows,p.2=q.2∧p.1.src=q.1.src)∨(w'.ownsRow 0 3 1 p.2 p.1.src.length (intCells p.1.src)∧p.1.src.length≤1000))
  (hc:(rows'.map fun p=>p.1.code).Nodup) (hs:∀ p ∈ rows',p.1.code.size≤maxLen) (h8:rows'.length≤8):Stands w' rows' tv':=by
 refine⟨ht,fun p hp=>?_,fun p hp=>?_,hc,hs,h8⟩
 ·rcases hf p hp with⟨q,hq,e1,e2⟩ | ⟨h1,_⟩
  ·rw [e1,e2]
   exact row_same (h.froms q hq) (fun g hg=>hb.block g (row_lt (h.froms q hq) hg))
  ·exact h1
 ·rcases hf p hp with⟨q,hq,_,e2⟩ | ⟨_,h1⟩
  ·rw [e2];exact h.fromsLen q hq
  ·exact h1
def RDeedDone (w:World)(rows:List SRow)(acc:Yd.Acc)(d:Deed Code)(i:Int)(e:Ending)(w':World):Prop :=
 ∃(rows':List SRow) (tv':Value) (acc':Yd.Acc),e=.returned (.agg (tv' :: accCells acc').toArray)∧Below w.heap.size w w'∧Stands w' rows' tv'∧stOf rows' acc'=deed (stOf rows acc) d i
theorem owns_emptyS (w:World):(w.alloc (.cells #[] 49)).ownsRow w.heap.size 49 8 (Zl (some ⟨w.heap.size,0,none⟩) 0 0) 0 [] :=
 ⟨rfl,.inr ⟨w.heap.size,0,#[],rfl,Nat.le_refl _,Blk.new w 49 #[],Nat.le_refl _,Nat.zero_le _,rfl,rfl⟩⟩
theorem row_blockS {w:World}{base n:Nat}{v:Value}{xs:List Value}(h:w.ownsRow base 49 8 v n xs)(hne:v≠Zl none 0 0) :
  ∃(g cap:Nat) (cur:Array Value),v=Zl (some ⟨g,0,none⟩) n cap∧Blk w g 49 cur∧n≤cap∧cap≤maxLen∧base≤g∧cur.size=cap*8∧cur.toList.take (n*8)=xs:=by
 obtain⟨_,⟨h1,_⟩ | ⟨g,cap,cur,hv,hb,hg,hc,hm,hsz,ht⟩⟩:=h
 ·exact absurd h1 hne
 ·exact⟨g,cap,cur,hv,hg,hc,hm,hb,hsz,ht⟩
theorem Locs.apartS {w0 W:World}{L:List (Nat × TypeId × List Value)}{S:List (List SRow × Value)}{g:Nat}{t:TypeId}{cs:List Value}(h:Locs w0 W (L++[(g,t,cs)]) S):∀ x ∈ L,x.1≠g:=fun x hx e=>by
 have hn:=h.nodup
 rw [List.map_append,List.nodup_append]at hn
 exact hn.2.2 x.1 (List.mem_map_of_mem hx) g (by simp) e
theorem rowed_ofS {w0 W:World}{L:List (Nat × TypeId × List Value)}{S:List (List SRow × Value)}{g n cap:Nat}{l:List (SRow)}{spare:List Value}(h:Locs w0 W (L++[(g,49,flat rowCells l++spare)]) S)(hl:l.length=n)(hc:n≤cap∧cap≤maxLen∧spare.length=(cap-n)*8) :
  Rowed w0 W L 49 8 (Zl (some ⟨g,0,none⟩) n cap) n (flat rowCells l):=by
 have hb:=h.loc (g,49,flat rowCells l++spare) (by simp)
 have hfl:(flat rowCells l).length=n*8:=by rw [flat_length row_eight,hl]
 refine⟨⟨hfl,.inr ⟨g,cap,_,rfl,hb.2,hb.1,hc.1,hc.2.1,?_,?_⟩⟩,fun x hx e=>h.apartS x hx ?_⟩
 ·simp only [List.size_toArray,List.length_append,hfl,hc.2.2];omega
 ·show(flat rowCells l++spare).take (n*8)=flat rowCells l
  rw [List.take_append_of_le_length (by omega),← hfl,List.take_length]
 ·injection e with e;exact e.symm
theorem row_cellS {w0 W:World}{L:List (Nat × TypeId × List Value)}{S:List (List SRow × Value)}{g k:Nat}{l:List (SRow)}{spare:List Value}(h:Locs w0 W L S)(i:Nat)(hi:L[i]? = some (g,49,flat rowCells l++spare))(hk:k<l.length)(q:Nat)(hq:q<8):W.cell? ⟨g,k*8+q,none⟩=(rowCells l[k]!)[q]? := by
 rw [(h.blk i hi).cell,← flat_get row_eight l k q hk hq]
 have hl:k*8+q<(flat rowCells l).length:=by rw [flat_length row_eight];omega
 simp [List.getElem?_append_left hl]
theorem Locs.setRowS {w0 W:World}{L:List (Nat × TypeId × List Value)}{S:List (List SRow × Value)}{g k:Nat}{l:List (SRow)}{spare:List Value}(h:Locs w0 W L S)(i:Nat)(hi:L[i]? = some (g,49,flat rowCells l++spare))(hk:k<l.length)(x:SRow):Locs w0 (W.setCells g (k*8) (rowCells x)) (L.set i (g,49,flat rowCells (l.set k x)++spare)) S:=by
 have e:l=l.take k++l[k]! :: l.drop (k+1):=by
  conv=>lhs;rw [← List.take_append_drop k l]
  rw [drop_get hk]
 have ef:flat rowCells l++spare=flat rowCells (l.take k)++rowCells l[k]! ++ (flat rowCells (l.drop (k+1))++spare):=by
  conv=>lhs;rw [e]
  rw [flat_append,flat_cons];simp
 have es:flat rowCells (l.set k x)++spare=flat rowCells (l.take k)++rowCells x++(flat rowCells (l.drop (k+1))++spare):=by
  rw [List.set_eq_take_append_cons_drop,if_pos hk,flat_append,flat_cons];simp
 have hp:(flat rowCells (l.take k)).length=k*8:=by rw [flat_length row_eight,List.length_take,Nat.min_eq_left (by omega)]
 rw [ef]at hi
 rw [es,← hp]
 exact h.setLoc i _ _ _ (rowCells x) hi rfl
theorem row_adoptS {w0 W:World}{L:List (Nat × TypeId × List Value)}{g n cap:Nat}{l:List (SRow)}(h:Locs w0 W L [])(hr:Rowed w0 W L 49 8 (Zl (some ⟨g,0,none⟩) n cap) n (flat rowCells l)) :
  ∃ spare:List Value,(n≤cap∧cap≤maxLen∧spare.length=(cap-n)*8)∧Locs w0 W (L++[(g,49,flat rowCells l++spare)]) []:=by
 obtain⟨g',cap',cur,hv,hb,hc,hm,hg,hs,ht⟩:=row_blockS hr.own (by intro e;injection e with e1;cases e1)
 injection hv with e1 e2 e3
 injection e1 with e1
 injection e1 with e1
 subst e1 e3
 refine⟨cur.toList.drop (n*8),⟨hc,hm,by rw [List.length_drop,Array.length_toList,hs,Nat.mul_comm n,Nat.mul_comm cap,← Nat.mul_sub,Nat.mul_comm]⟩,h.adopt ?_ hg (fun x hx e=>hr.sep x hx (by rw [e];rfl))⟩
 rw [← ht,List.take_append_drop,Array.toArray_toList]
 exact hb
theorem owns_lowerS {w:World}{B B' n:Nat}{v:Value}{xs:List Value}(h:w.ownsRow B 49 8 v n xs)(hb:B'≤B):w.ownsRow B' 49 8 v n xs:=by
 obtain⟨h0,h1 | ⟨g,cap,cur,hv,hg,hbl,hr⟩⟩:=h
 ·exact⟨h0,.inl h1⟩
 ·exact⟨h0,.inr ⟨g,cap,cur,hv,Nat.le_trans hb hg,hbl,hr⟩⟩
theorem map_fst_set (rows:List SRow)(k:Nat)(x:SRow):(rows.set k x).map (·.1)=(rows.map (·.1)).set k x.1:=by rw [List.map_set]
theorem stands_set {w w':World}{rows:List SRow}{tv tv':Value}{k:Nat}{p x:SRow}(h:Stands w rows tv)(hb:Below w.heap.size w w')(hp:rows[k]? = some p)(hc:x.1.code=p.1.code)(hv:x.2=p.2)(hs:x.1.src=p.1.src)
  (ht:w'.ownsRow 0 49 8 tv' (rows.set k x).length (rowsCells (rows.set k x))):Stands w' (rows.set k x) tv':=by
 have hm:∀ q ∈ rows.set k x,q ∈ rows∨q=x:=fun q hq=>List.mem_or_eq_of_mem_set hq
 have hpm:=List.mem_of_getElem? hp
 have hcode:(rows.set k x).map (fun p=>p.1.code)=rows.map (fun p=>p.1.code):=by
  rw [List.map_set]
  apply List.ext_getElem?
  intro i
  rw [List.getElem?_set]
  by_cases hki:k=i
  ·subst hki
   have hk:=(List.getElem?_eq_some_iff.1 hp).1
   rw [if_pos rfl,if_pos (by rw [List.length_map];exact hk),hc,List.getElem?_map,hp]
   rfl
  ·rw [if_neg hki]
 refine stands_kept h hb ht (fun q hq=>?_) (by rw [hcode];exact h.codes) (fun q hq=>?_) (by rw [List.length_set];exact h.few)
 ·rcases hm q hq with h1 | rfl
  ·exact .inl ⟨q,h1,rfl,rfl⟩
  ·exact .inl ⟨p,hpm,hv,hs⟩
 ·rcases hm q hq with h1 | rfl
  ·exact h.sizes q h1
  ·rw [hc];exact h.sizes p hpm
theorem deed_set {rows:List SRow}{acc:Yd.Acc}{d:Deed Code}{k:Nat}{p:SRow}(i:Int)(hq:Quiet d)(hat:at_ (rows.map (·.1)) d.stack=k)(hp:rows[k]? = some p) :
  deed (stOf rows acc) d i=stOf (rows.set k (p.1.done p.1 d,p.2)) (acc.done p.1 d):=by
 have h:=deed_quiet (s:=stOf rows acc) (x:=p.1) hq (by simp only [stOf];rw [hat,List.getElem?_map,hp];rfl) i
 rw [h]
 simp only [stOf,map_fst_set,hat]
theorem row_here {rows:List SRow}{k:Nat}{p:SRow}(hp:rows[k]? = some p):k<rows.length∧rows[k]! = p:=by
 obtain⟨h1,h2⟩:=List.getElem?_eq_some_iff.1 hp
 exact⟨h1,by rw [getElem!_pos rows k h1,h2]⟩
def Up4 (m a b:Int):Prop:=(0≤a∧a≤m)∧(0≤b∧b≤m)
theorem Up4.more {m n a b:Int}(h:Up4 m a b)(hmn:m≤n):Up4 n a b:=⟨⟨h.1.1,Int.le_trans h.1.2 hmn⟩,⟨h.2.1,Int.le_trans h.2.2 hmn⟩⟩
theorem up4_of {b:Bd}{n:Int}{m:Int}(h:b.Up n)(hm:n≤m):Up4 m b.lo b.hi:=by unfold Bd.Up at h;unfold Up4;omega
theorem up4_small {b:Bd}{i:Nat}(h:b.Up (cap i))(hi:i≤12):Up4 2000000000000000 b.lo b.hi:=up4_of h (cap_le hi)
theorem up4_fit {m a b:Int}(h:Up4 m a b){n:Int}(hmn:m≤n):Bd.Fit n ⟨a,b⟩:=by unfold Up4 at h;simp only [Bd.Fit];omega
theorem fits_a {d:Deed Code}(h:Fits d):Up4 100000000 d.a.lo d.a.hi:=by have h1:=h.fine.a;have h2:=h.a8;unfold Bd.Ok at h1;unfold Up4;omega
theorem fits_thousand {d:Deed Code}(h:Fits d)(hk:d.kind=2∨d.kind=3∨d.kind=5):Up4 3000 d.a.lo d.a.hi:=by have h1:=h.fine.a;have h2:=h.fine.thousand hk;unfold Bd.Ok at h1;unfold Up4;omega
theorem fits_soak {d:Deed Code}(h:Fits d)(hk:d.kind=3):Up4 3000 d.b.lo d.b.hi:=by have h1:=h.fine.b;have h2:=h.soak hk;unfold Bd.Ok at h1;unfold Up4;omega
theorem part_in {x y:Int}(hx:0≤x∧x≤2000000000000000)(hy:0≤y∧y≤3000):0≤x*y/1000∧x*y/1000≤6000000000000000:=by
 obtain⟨h1,h2⟩:=mul_fit hx hy
 omega
theorem part_up4 {x0 x1 y0 y1:Int}(hx:Up4 2000000000000000 x0 x1)(hy:Up4 3000 y0 y1):Up4 6000000000000000 (x0*y0/1000) (x1*y1/1000):=⟨part_in hx.1 hy.1,part_in hx.2 hy.2⟩
theorem radd_up {a0 a1 b0 b1:Int}(ha:Up4 8000000000000000 a0 a1)(hb:Up4 8000000000000000 b0 b1)(W:World) :
  Calls Try.prog 70 #[.agg #[Z O a0,Z O a1],.agg #[Z O b0,Z O b1]] W (fun e w'=>e=.returned (.agg #[Z O (a0+b0),Z O (a1+b1)])∧Below W.heap.size W w') :=
 radd_calls ⟨a0,a1⟩ ⟨b0,b1⟩ W (up4_fit ha (by decide)) (up4_fit hb (by decide))
theorem rpart_up {a0 a1 b0 b1:Int}(ha:Up4 2000000000000000 a0 a1)(hb:Up4 3000 b0 b1)(W:World) :
  Calls Try.prog 71 #[.agg #[Z O a0,Z O a1],.agg #[Z O b0,Z O b1]] W (fun e w'=>e=.returned (.agg #[Z O (a0*b0/1000),Z O (a1*b1/1000)])∧Below W.heap.size W w') :=
 rpart_calls ⟨a0,a1⟩ ⟨b0,b1⟩ W (up4_fit ha (by decide)) (up4_fit hb (by decide)) ⟨ha.1.1,ha.2.1⟩ ⟨hb.1.1,hb.2.1⟩
theorem rleft_up {a0 a1 b0 b1:Int}(ha:Up4 2000000000000000 a0 a1)(hb:Up4 3000 b0 b1)(W:World) :
  Calls Try.prog 72 #[.agg #[Z O a0,Z O a1],.agg #[Z O b0,Z O b1]] W (fun e w'=>e=.returned (.agg #[Z O (a0-a0*b1/1000),Z O (a1-a1*b0/1000)])∧Below W.heap.size W w') :=
 rleft_calls ⟨a0,a1⟩ ⟨b0,b1⟩ W (up4_fit ha (by decide)) (up4_fit hb (by decide)) ⟨ha.1.1,ha.2.1⟩ ⟨hb.1.1,hb.2.1⟩
theorem rweighed_up {a0 a1 b0 b1 c0 c1:Int}(ha:Up4 2000000000000000 a0 a1)(hb:Up4 2000000000000000 b0 b1)(hc:Up4 100000000 c0 c1)(W:World) :
  Calls Try.prog 69 #[.agg #[Z O a0,Z O a1],.agg #[Z O b0,Z O b1],.agg #[Z O c0,Z O c1]] W (fun e w'=>e=.returned (.agg #[Z O (max a0 (c0-b1)),Z O (min a1 (c1-b0))])∧Below W.heap.size W w') :=
 rweighed_calls ⟨a0,a1⟩ ⟨b0,b1⟩ ⟨c0,c1⟩ W (up4_fit ha (by decide)) (up4_fit hb (by decide)) (up4_fit hc (by decide))
theorem rmap_erase {α β:Type}(f:α→β)(l:List α)(k:Nat):(l.eraseIdx k).map f=(l.map f).eraseIdx k:=by
 rw [List.eraseIdx_eq_take_drop_succ,List.eraseIdx_eq_take_drop_succ,List.map_append,List.map_take,List.map_drop]
theorem stands_erase {w w':World}{rows:List SRow}{tv tv':Value}{k o:Nat}{p x:SRow}(h:Stands w rows tv)(hb:Below w.heap.size w w')(hp:rows[k]? = some p)(hc:x.1.code=p.1.code)
  (hx:(x.2=p.2∧x.1.src=p.1.src)∨(w'.ownsRow 0 3 1 x.2 x.1.src.length (intCells x.1.src)∧x.1.src.length≤1000))
  (ht:w'.ownsRow 0 49 8 tv' ((rows.set k x).eraseIdx o).length (rowsCells ((rows.set k x).eraseIdx o))):Stands w' ((rows.set k x).eraseIdx o) tv':=by
 have hm:∀ q ∈ (rows.set k x).eraseIdx o,q ∈ rows∨q=x:=fun q hq=>List.mem_or_eq_of_mem_set (List.mem_of_mem_eraseIdx hq)
 have hpm:=List.mem_of_getElem? hp
 have hcode:(rows.set k x).map (fun p=>p.1.code)=rows.map (fun p=>p.1.code):=by
  rw [List.map_set]
  apply List.ext_getElem?
  intro i
  rw [List.getElem?_set]
  by_cases hki:k=i
  ·subst hki
   have hk:=(List.getElem?_eq_some_iff.1 hp).1
   rw [if_pos rfl,if_pos (by rw [List.length_map];exact hk),hc,List.getElem?_map,hp]
   rfl
  ·rw [if_neg hki]
 refine stands_kept h hb ht (fun q hq=>?_) ?_ (fun q hq=>?_) ?_
 ·rcases hm q hq with h1 | rfl
  ·exact .inl ⟨q,h1,rfl,rfl⟩
  ·rcases hx with⟨e1,e2⟩ | h2
   ·exact .inl ⟨p,hpm,e1,e2⟩
   ·exact .inr h2
 ·rw [rmap_erase,hcode]
  exact h.codes.sublist (List.eraseIdx_sublist _ _)
 ·rcases hm q hq with h1 | rfl
  ·exact h.sizes q h1
  ·rw [hc];exact h.sizes p hpm
 ·have h1:=(List.eraseIdx_sublist (rows.set k x) o).length_le
  rw [List.length_set]at h1
  exact Nat.le_trans h1 h.few
theorem deed_sell {rows:List SRow}{acc:Yd.Acc}{d:Deed Code}{k:Nat}{p:SRow}(i:Int)(hk:d.kind=8)(hat:at_ (rows.map (·.1)) d.stack=k)(hp:rows[k]? = some p) :
  deed (stOf rows acc) d i=stOf ((rows.set k p).eraseIdx k) (acc.done p.1 d):=by
 have hx:(stOf rows acc).stacks[at_ (stOf rows acc).stacks d.stack]? = some p.1:=by simp only [stOf];rw [hat,List.getElem?_map,hp];rfl
 unfold deed
 rw [if_neg (by omega),hx]
 simp only [stOf,hat,rmap_erase,map_fst_set]
 unfold after
 rw [if_neg (by omega),if_neg (by omega),if_pos hk]
 have e:∀ n,p.1.done n d=p.1:=fun n=>by unfold Stk.done;simp [hk]
 rw [e]
theorem deed_merge {rows:List SRow}{acc:Yd.Acc}{d:Deed Code}{k o:Nat}{p q:SRow}(v:Value)(i:Int)(hk:d.kind=6)(hat:at_ (rows.map (·.1)) d.stack=k)(hp:rows[k]? = some p)(hao:at_ (rows.map (·.1)) d.other=o)(hq:rows[o]? = some q) :
  deed (stOf rows acc) d i=stOf ((rows.set k (p.1.done q.1 d,v)).eraseIdx o) (acc.done p.1 d):=by
 have hx:(stOf rows acc).stacks[at_ (stOf rows acc).stacks d.stack]? = some p.1:=by simp only [stOf];rw [hat,List.getElem?_map,hp];rfl
 have hy:(stOf rows acc).stacks[at_ (stOf rows acc).stacks d.other]? = some q.1:=by simp only [stOf];rw [hao,List.getElem?_map,hq];rfl
 unfold deed
 rw [if_neg (by omega),hx,hy]
 simp only [stOf,hat,hao,rmap_erase,map_fst_set,Option.getD_some]
 unfold after
 rw [if_neg (by omega),if_pos hk]
theorem both_pos {l m:List Int}(h:l≠[]):0<(both l m).length:=by
 cases l with
 | nil=>exact absurd rfl h
 | cons a l =>
   cases m with
   | nil=>rw [both];simp
   | cons b m =>
     rw [both]
     split
     ·simp
     split <;> simp
theorem perm_row2 {α:Type}(a b c r x y:α) : [a,b,c,x,y,r].Perm [a,b,c,r,x,y]:=.cons _ (.cons _ (.cons _ (List.perm_append_comm (l₁:=[x,y]) (l₂:=[r]))))
theorem perm_row3 {α:Type}(a b c r x y z:α) : [a,b,c,x,y,z,r].Perm [a,b,c,r,x,y,z]:=.cons _ (.cons _ (.cons _ (List.perm_append_comm (l₁:=[x,y,z]) (l₂:=[r]))))
theorem stands_grow {w w':World}{rows:List SRow}{tv tv':Value}{k:Nat}{p x q:SRow}(h:Stands w rows tv)(hb:Below w.heap.size w w')(hp:rows[k]? = some p)(hc:x.1.code=p.1.code)(hv:x.2=p.2)(hs:x.1.src=p.1.src)
  (hq:(q.2=p.2∧q.1.src=p.1.src)∨(w'.ownsRow 0 3 1 q.2 q.1.src.length (intCells q.1.src)∧q.1.src.length≤1000)) (hnew:∀ r ∈ rows,r.1.code≠q.1.code) (hqs:q.1.code.size≤maxLen) (h8:rows.length<8)
  (ht:w'.ownsRow 0 49 8 tv' ((rows++[q]).set k x).length (rowsCells ((rows++[q]).set k x))):Stands w' ((rows++[q]).set k x) tv':=by
 have hk:=(List.getElem?_eq_some_iff.1 hp).1
 have e:(rows++[q]).set k x=rows.set k x++[q]:=by rw [List.set_append_left _ _ hk]
 have hpm:=List.mem_of_getElem? hp
 have hm:∀ r ∈ rows.set k x,r ∈ rows∨r=x:=fun r hr=>List.mem_or_eq_of_mem_set hr
 have hcode:(rows.set k x).map (fun p=>p.1.code)=rows.map (fun p=>p.1.code):=by
  rw [List.map_set]
  apply List.ext_getElem?
  intro i
  rw [List.getElem?_set]
  by_cases hki:k=i
  ·subst hki
   rw [if_pos rfl,if_pos (by rw [List.length_map];exact hk),hc,List.getElem?_map,hp]
   rfl
  ·rw [if_neg hki]
 rw [e]at ht ⊢
 refine stands_kept h hb ht (fun r hr=>?_) ?_ (fun r hr=>?_) (by rw [List.length_append,List.length_set];simp;omega)
 ·rcases List.mem_append.1 hr with h1 | h1
  ·rcases hm r h1 with h2 | rfl
   ·exact .inl ⟨r,h2,rfl,rfl⟩
   ·exact .inl ⟨p,hpm,hv,hs⟩
  ·obtain rfl:=List.mem_singleton.1 h1
   rcases hq with⟨e1,e2⟩ | h2
   ·exact .inl ⟨p,hpm,e1,e2⟩
   ·exact .inr h2
 ·rw [List.map_append,hcode,List.nodup_append]
  refine⟨h.codes,by simp,fun a ha b hb=>?_⟩
  obtain⟨r,hr,rfl⟩:=List.mem_map.1 ha
  simp at hb
  rw [hb]
  exact hnew r hr
 ·rcases List.mem_append.1 hr with h1 | h1
  ·rcases hm r h1 with h2 | rfl
   ·exact h.sizes r h2
   ·rw [hc];exact h.sizes p hpm
  ·rw [List.mem_singleton.1 h1];exact hqs
theorem deed_split {rows:List SRow}{acc:Yd.Acc}{d:Deed Code}{k:Nat}{p:SRow}(v:Value)(i:Int)(hk:d.kind=5)(hat:at_ (rows.map (·.1)) d.stack=k)(hp:rows[k]? = some p) :
  deed (stOf rows acc) d i=stOf ((rows++[(p.1.cut d,v)]).set k (p.1.done p.1 d,v)) (acc.done p.1 d):=by
 have hx:(stOf rows acc).stacks[at_ (stOf rows acc).stacks d.stack]? = some p.1:=by simp only [stOf];rw [hat,List.getElem?_map,hp];rfl
 have e:∀ n,p.1.done n d=p.1.done p.1 d:=fun n=>by unfold Stk.done;simp [hk]
 unfold deed
 rw [if_neg (by omega),hx]
 simp only [stOf,hat,map_fst_set,List.map_append,List.map_cons,List.map_nil]
 unfold after
 rw [if_pos hk,e]
theorem stands_push {w w':World}{rows:List SRow}{tv tv':Value}{q:SRow}(h:Stands w rows tv)(hb:Below w.heap.size w w')
  (hq:w'.ownsRow 0 3 1 q.2 q.1.src.length (intCells q.1.src)∧q.1.src.length≤1000) (hnew:∀ r ∈ rows,r.1.code≠q.1.code) (hqs:q.1.code.size≤maxLen) (h8:rows.length<8)
  (ht:w'.ownsRow 0 49 8 tv' (rows++[q]).length (rowsCells (rows++[q]))):Stands w' (rows++[q]) tv':=by
 refine stands_kept h hb ht (fun r hr=>?_) ?_ (fun r hr=>?_) (by rw [List.length_append];simp;omega)
 ·rcases List.mem_append.1 hr with h1 | h1
  ·exact .inl ⟨r,h1,rfl,rfl⟩
  ·obtain rfl:=List.mem_singleton.1 h1
   exact .inr hq
 ·rw [List.map_append,List.nodup_append]
  refine⟨h.codes,by simp,fun a ha b hb=>?_⟩
  obtain⟨r,hr,rfl⟩:=List.mem_map.1 ha
  simp at hb
  rw [hb]
  exact hnew r hr
 ·rcases List.mem_append.1 hr with h1 | h1
  ·exact h.sizes r h1
  ·rw [List.mem_singleton.1 h1];exact hqs
theorem deed_pile {rows:List SRow}{acc:Yd.Acc}{d:Deed Code}(v:Value)(i:Int)(hk:d.kind=1):deed (stOf rows acc) d i=stOf (rows++[(piledUp d i,v)]) acc:=by
 rw [deed_one hk]
 simp only [stOf,List.map_append,List.map_cons,List.map_nil]
end Go.Proofs.Ytgekekhbhkgekaa
