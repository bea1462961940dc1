/- The document's functions on bounds, and where a stack stands. Two standings of the same stacks are equal. Two standings of the same stacks are equal. -/
import Derived.Test.YtgekekhbhkgekaaRYFollow
namespace Go.Proofs.Ytgekekhbhkgekaa
open Go Go.RowKit Go.Shelf Yd
open Go.Value renaming int→Z,string→Zs,slice→Zl
open Go.IntKind renaming i64→O
open Go.Lib renaming hid→Zh
set_option maxRecDepth 100000
set_option maxHeartbeats 16000000
theorem radd_calls (a b:Bd)(w:World)(ha:Bd.Fit 4000000000000000000 a)(hb:Bd.Fit 4000000000000000000 b) :
  Calls Try.prog 70 #[bdv a,bdv b] w fun e w'=>e=.returned (bdv (a.add b))∧Below w.heap.size w w':=by
 obtain⟨a1,a2⟩:=a
 obtain⟨b1,b2⟩:=b
 simp only [bdv,Bd.add,Bd.Fit]at *
 obtain⟨h1,h2,h3,h4⟩:=ha
 obtain⟨h5,h6,h7,h8⟩:=hb
 go_enter Try.func70,Try.ntmps70
 go_wp2
 exact bodyPost_ret (v:=.agg #[Z O (a1+b1),Z O (a2+b2)]) (by simp [results,Try.results70,go_sem]) rfl ⟨rfl,by(repeat(first|(refine Below.setCell ?_ (by first|(simp;done)|(simp;omega)) _)|(refine Below.alloc ?_ (by first|(simp;done)|(simp;omega)) _)|(refine Below.drew ?_)));exact Below.refl _ _⟩
theorem rpart_calls (a b:Bd)(w:World)(ha:Bd.Fit 2000000000000000 a)(hb:Bd.Fit 4000 b)(hn:0≤a.lo∧0≤a.hi)(hm:0≤b.lo∧0≤b.hi) :
  Calls Try.prog 71 #[bdv a,bdv b] w fun e w'=>e=.returned (bdv (a.part b))∧Below w.heap.size w w':=by
 obtain⟨a1,a2⟩:=a
 obtain⟨b1,b2⟩:=b
 simp only [bdv,Bd.part,Bd.Fit]at *
 obtain⟨h1,h2,h3,h4⟩:=ha
 obtain⟨h5,h6,h7,h8⟩:=hb
 have m0:=mul_fit (x:=a1) (y:=b1) (n:=2000000000000000) (m:=4000) (by omega) (by omega)
 have m1:=mul_fit (x:=a2) (y:=b2) (n:=2000000000000000) (m:=4000) (by omega) (by omega)
 have q0:0≤a1*b1/1000∧a1*b1/1000≤8000000000000000:=by omega
 have q1:0≤a2*b2/1000∧a2*b2/1000≤8000000000000000:=by omega
 obtain⟨m01,m02⟩:=m0
 obtain⟨m11,m12⟩:=m1
 obtain⟨q01,q02⟩:=q0
 obtain⟨q11,q12⟩:=q1
 go_enter Try.func71,Try.ntmps71
 go_wp2
 exact bodyPost_ret (v:=.agg #[Z O (a1*b1/1000),Z O (a2*b2/1000)]) (by simp [results,Try.results71,go_sem]) rfl ⟨rfl,by(repeat(first|(refine Below.setCell ?_ (by first|(simp;done)|(simp;omega)) _)|(refine Below.alloc ?_ (by first|(simp;done)|(simp;omega)) _)|(refine Below.drew ?_)));exact Below.refl _ _⟩
theorem rleft_calls (a b:Bd)(w:World)(ha:Bd.Fit 2000000000000000 a)(hb:Bd.Fit 4000 b)(hn:0≤a.lo∧0≤a.hi)(hm:0≤b.lo∧0≤b.hi) :
  Calls Try.prog 72 #[bdv a,bdv b] w fun e w'=>e=.returned (bdv (a.left b))∧Below w.heap.size w w':=by
 obtain⟨a1,a2⟩:=a
 obtain⟨b1,b2⟩:=b
 simp only [bdv,Bd.left,Bd.Fit]at *
 obtain⟨h1,h2,h3,h4⟩:=ha
 obtain⟨h5,h6,h7,h8⟩:=hb
 have m0:=mul_fit (x:=a1) (y:=b2) (n:=2000000000000000) (m:=4000) (by omega) (by omega)
 have m1:=mul_fit (x:=a2) (y:=b1) (n:=2000000000000000) (m:=4000) (by omega) (by omega)
 have q0:0≤a1*b2/1000∧a1*b2/1000≤8000000000000000:=by omega
 have q1:0≤a2*b1/1000∧a2*b1/1000≤8000000000000000:=by omega
 obtain⟨m01,m02⟩:=m0
 obtain⟨m11,m12⟩:=m1
 obtain⟨q01,q02⟩:=q0
 obtain⟨q11,q12⟩:=q1
 go_enter Try.func72,Try.ntmps72
 go_wp2
 exact bodyPost_ret (v:=.agg #[Z O (a1-a1*b2/1000),Z O (a2-a2*b1/1000)]) (by simp [results,Try.results72,go_sem]) rfl ⟨rfl,by(repeat(first|(refine Below.setCell ?_ (by first|(simp;done)|(simp;omega)) _)|(refine Below.alloc ?_ (by first|(simp;done)|(simp;omega)) _)|(refine Below.drew ?_)));exact Below.refl _ _⟩
theorem rweighed_calls (a b s:Bd)(w:World)(ha:Bd.Fit 4000000000000000000 a)(hb:Bd.Fit 4000000000000000000 b)(hs:Bd.Fit 4000000000000000000 s) :
  Calls Try.prog 69 #[bdv a,bdv b,bdv s] w fun e w'=>e=.returned (bdv (a.weighed b s))∧Below w.heap.size w w':=by
 obtain⟨a1,a2⟩:=a
 obtain⟨b1,b2⟩:=b
 obtain⟨s1,s2⟩:=s
 simp only [bdv,Bd.weighed,Bd.Fit]at *
 obtain⟨h1,h2,h3,h4⟩:=ha
 obtain⟨h5,h6,h7,h8⟩:=hb
 obtain⟨h9,h10,h11,h12⟩:=hs
 go_enter Try.func69,Try.ntmps69
 go_wp2
 all_goals exact bodyPost_ret (v:=.agg #[Z O (max a1 (s1-b2)),Z O (min a2 (s2-b1))]) (by simp [results,Try.results69,go_sem];try omega) rfl ⟨rfl,by(repeat(first|(refine Below.setCell ?_ (by first|(simp;done)|(simp;omega)) _)|(refine Below.alloc ?_ (by first|(simp;done)|(simp;omega)) _)|(refine Below.drew ?_)));exact Below.refl _ _⟩
def rxInt (l:List SRow)(c:Code):Int:=match ixOf l c with
 | some k=>(k:Int)
 | none => -1
theorem rx_hit {l:List SRow}{c:Code}{k:Nat}{p:SRow}(hp:l[k]? = some p)(hc:p.1.code=c)(hno:∀ i q,i<k→l[i]? = some q→q.1.code≠c):rxInt l c=(k:Int):=by
 have hk:=(List.getElem?_eq_some_iff.1 hp).1
 have h:ixOf l c=some k:=by
  unfold ixOf
  rw [List.findIdx?_eq_some_iff_getElem]
  refine⟨hk,?_,fun j hj=>?_⟩
  ·have:=(List.getElem?_eq_some_iff.1 hp).2
   rw [this];simpa using hc
  ·have:=hno j l[j] hj (List.getElem?_eq_getElem (by omega))
   simpa using this
 unfold rxInt
 rw [h]
theorem rx_miss {l:List SRow}{c:Code}(hno:∀ i q,i<l.length→l[i]? = some q→q.1.code≠c):rxInt l c = -1:=by
 have h:ixOf l c=none:=by
  unfold ixOf
  rw [List.findIdx?_eq_none_iff]
  intro p hp
  obtain⟨i,hi⟩:=List.getElem?_of_mem hp
  have:=hno i p (List.getElem?_eq_some_iff.1 hi).1 hi
  simpa using this
 unfold rxInt
 rw [h]
theorem stk_of {w:World}{base:Nat}{l:List SRow}{tv:Value}(h:w.ownsRow base 49 8 tv l.length (rowsCells l)){k:Nat}{p:SRow}(hk:l[k]? = some p) :
  ∃ g cap,tv=Zl (some ⟨g,0,none⟩) l.length cap∧g<w.heap.size∧l.length≤cap∧∀ i,i<8→w.cell? ⟨g,k*8+i,none⟩=(rowCells p)[i]? := by
 have hlt:k<l.length:=(List.getElem?_eq_some_iff.1 hk).1
 obtain⟨g,cap,cur,hv,hb,hc,_,hs,ht⟩:=row_block h (by omega)
 refine⟨g,cap,hv,hb.lt,hc,fun i hi=>?_⟩
 rw [hb.cell,← rows_get hk i hi,← ht,Nat.mul_comm k 8,List.getElem?_take,if_pos (by omega)]
 simp
theorem rat_calls {base:Nat}(tv:Value)(l:List SRow)(code:Code)(w:World)(h:w.ownsRow base 49 8 tv l.length (rowsCells l))(hl:l.length≤100) :
  Calls Try.prog 68 #[tv,Zs code] w fun e w'=>e=.returned (Z O (rxInt l code))∧Below w.heap.size w w':=by
 have HROW:=Zh (fun k p (hk:l[k]? = some p)=>stk_of h hk)
 obtain⟨a,n,c,rfl⟩:=row_slice h
 have hn:=row_len h
 have HN:=Zh hn
 rw [← hn]at hl
 clear h hn
 go_enter Try.func68,Try.ntmps68
 go_wp2
 go_loopw [5] (fun iv wr => ∃(k:Nat),k≤n∧iv=Z O k∧Hid (∀ i q,i<k→l[i]? = some q→q.1.code≠code)∧Hid (Below w.heap.size w wr)) (fun iv _=>n-(intOf iv).toNat)
 case atStart=>exact⟨0,Nat.zero_le _,rfl,Zh (fun i q hi=>by omega),Zh (Below.refl _ _)⟩
 case round =>
  obtain⟨k,hk,rfl,HNO,HB⟩:=hrel
  by_cases hlt:k<n
  ·have hkl:k<l.length:=by rw [← HN.out];exact hlt
   obtain⟨p,hp⟩:∃ p,l[k]? = some p:=⟨_,List.getElem?_eq_getElem hkl⟩
   obtain⟨g,cap,hv,hg,hnc,hcell⟩:=HROW.out k p hp
   injection hv with e1 e2 e3
   subst e1 e3
   have hcn:n≤c:=by rw [HN.out];exact hnc
   obtain⟨x,hx⟩:∃ x,x=p.1.code:=⟨_,rfl⟩
   have c0:=(show wr.cell? ⟨g,k*8,none⟩=some (Zs x)from(HB.out.cell (p:=⟨g,k*8+0,none⟩) hg).trans ((hcell 0 (by omega)).trans (by rw [hx];rfl)))
   have hkI:(k:Int)<(n:Int):=by omega
   have HP:=Zh hp;have HX:=Zh hx
   clear hcell hp e2
   by_cases he:x=code
   ·subst he
    have HF:=Zh (rx_hit HP.out HX.out.symm HNO.out)
    clear hx
    go_wp2
    go_ret
    exact⟨by rw [HF.out];rfl,HB.out⟩
   ·have hcc:(ByteArray.toList x == ByteArray.toList code)=false:=by rw [codes_beq];simpa using he
    have HE:=Zh he
    clear he hx
    go_wp2
    go_roundw
    case rel =>
     refine⟨k+1,by omega,by go_num,Zh (fun i q hi hq=>?_),HB⟩
     rcases Nat.lt_or_ge i k with h1 | h1
     ·exact HNO.out i q h1 hq
     ·obtain rfl:i=k:=by omega
      rw [HP.out]at hq
      cases hq
      rw [← HX.out];exact HE.out
    case measure=>simp [intOf];omega
  ·have hkn:n=k:=by omega
   subst hkn
   have HF:=Zh (rx_miss (l:=l) (c:=code) (fun i q hi hq=>HNO.out i q (by rw [HN.out];exact hi) hq))
   go_wp2
   go_ret
   exact⟨by rw [HF.out];rfl,HB.out⟩
theorem ints_at {w:World}{v:Value}{l:List Int}(h:w.ownsRow 0 3 1 v l.length (intCells l)) :
  ∃(a:Option Addr) (c:Nat),v=Zl a l.length c∧(0<l.length→∃ g,a=some ⟨g,0,none⟩∧g<w.heap.size∧∀ k,k<l.length→w.cell? ⟨g,k,none⟩=some (Z O l[k]!)):=by
 rcases Nat.eq_zero_or_pos l.length with h0 | h0
 ·obtain⟨a,n,c,rfl⟩:=row_slice h
  have:=row_len h
  subst this
  exact⟨a,c,rfl,fun h1=>by omega⟩
 ·obtain⟨g,cap,cur,hv,hb,hc,_,hs,ht⟩:=row_block h h0
  refine⟨_,cap,hv,fun _=>⟨g,rfl,hb.lt,fun k hk=>?_⟩⟩
  rw [hb.cell]
  have e:(intCells l)[k]? = some (Z O l[k]!):=by
   unfold intCells
   rw [List.getElem?_map,List.getElem?_eq_getElem hk,getElem!_pos l k hk];rfl
  rw [← ht,Nat.mul_one,List.getElem?_take,if_pos (by omega)]at e
  simpa using e
theorem Stands.row {w:World}{l:List SRow}{tv:Value}(h:Stands w l tv){k:Nat}{p:SRow}(hk:l[k]? = some p) :
  ∃ g cap,tv=Zl (some ⟨g,0,none⟩) l.length cap∧g<w.heap.size∧∀ i,i<8→w.cell? ⟨g,k*8+i,none⟩=(rowCells p)[i]? := by
 have hlt:k<l.length:=(List.getElem?_eq_some_iff.1 hk).1
 obtain⟨g,cap,cur,hv,hb,hc,_,hs,ht⟩:=row_block h.things (by omega)
 refine⟨g,cap,hv,hb.lt,fun i hi=>?_⟩
 rw [hb.cell,← rows_get hk i hi,← ht,Nat.mul_comm k 8,List.getElem?_take,if_pos (by omega)]
 simp
theorem stands_slice {w:World}{l:List SRow}{tv:Value}(h:Stands w l tv):∃ a c,tv=Zl a l.length c:=by
 obtain⟨a,n,c,rfl⟩:=row_slice h.things
 exact⟨a,c,by rw [row_len h.things]⟩
end Go.Proofs.Ytgekekhbhkgekaa
