/- Rests: plain facts that YardRests' walk uses. Lists of codes and of piles, and what they have. The program's Sources at a valid yard. The program's Holders at a valid yard. -/
import Derived.Test.YtgekekhbhkgekaaRYLocs
import Derived.Test.YtgekekhbhkgekaaRYRefRows
namespace Go.Proofs.Ytgekekhbhkgekaa
open Go Go.RowKit Go.Shelf Yd
open Go.Value renaming int→Z,string→Zs,slice→Zl
open Go.IntKind renaming i64→O
open Go.Lib renaming hid→Zh
open _root_.Nat renaming le_of_ble_eq_true→Zn
open Go renaming wpList_store_mid→Zw
set_option maxRecDepth 100000
set_option maxHeartbeats 16000000
theorem rooted_at {bef aft:Int}{ds:List (Deed Code)}{i:Nat}{t:St Code}{f:Int}(hf:Yd.follow bef aft ds i=(t,i,f))(hd:∀ d ∈ ds,d.Fine):∀ x ∈ t.stacks,Rooted ds i x:=by
 unfold Yd.follow at hf
 have:=rooted_run (be:=bef) (af:=aft) (all:=ds) (ds:=ds.take i) (s:=.empty) (i:=0) (fun x hx=>by cases hx)
  (fun j hj=>by
   have hl:j<ds.length:=by rw [List.length_take]at hj;omega
   rw [Nat.zero_add,List.getElem_take,List.getElem?_eq_getElem hl])
  (fun d h=>hd d (List.mem_of_mem_take h))
 rw [hf]at this
 exact this
def strCells (l:List Code):List Value:=l.map (.string ·)
theorem strs_at {w:World}{base:Nat}{v:Value}{l:List Code}(h:w.ownsRow base 9 1 v l.length (strCells l)) :
  ∃(a:Option Addr) (c:Nat),v=Zl a l.length c∧(0<l.length→∃ g,a=some ⟨g,0,none⟩∧g<w.heap.size∧∀ k,k<l.length→w.cell? ⟨g,k,none⟩=some (Zs l[k]!)):=by
 rcases Nat.eq_zero_or_pos l.length with h0 | h0
 ·obtain⟨a,n,c,rfl⟩:=row_slice h
  have:=row_len h
  subst this
  exact⟨a,c,rfl,fun h1=>by omega⟩
 ·obtain⟨g,cap,cur,hv,hb,hc,_,hs,ht⟩:=row_block h h0
  refine⟨_,cap,hv,fun _=>⟨g,rfl,hb.lt,fun k hk=>?_⟩⟩
  rw [hb.cell]
  have e:(strCells l)[k]? = some (Zs l[k]!):=by
   unfold strCells
   rw [List.getElem?_map,List.getElem?_eq_getElem hk,getElem!_pos l k hk];rfl
  rw [← ht,Nat.mul_one,List.getElem?_take,if_pos (by omega)]at e
  simpa using e
theorem mem_first {α:Type} [Inhabited α] {l:List α}{x:α}(h:∀ k,k<l.length→l[k]!≠x):x ∉ l:=fun hx=>by
 obtain⟨k,hk,e⟩:=List.mem_iff_getElem.1 hx
 exact h k hk (by rw [getElem!_pos l k hk,e])
theorem indexInt_calls {v:Value}{l:List Int}(s:Int)(w:World)(h:w.ownsRow 0 3 1 v l.length (intCells l))(hl:l.length≤1000) :
  Calls Try.prog 65 #[v,Z O s] w fun e w'=>(∃ r:Int,e=.returned (Z O r)∧(0≤r↔s ∈ l))∧w=w':=by
 obtain⟨a,c,rfl,hc⟩:=ints_at h
 have HC:=Zh hc
 obtain⟨n,hn⟩:∃ n,n=l.length:=⟨_,rfl⟩
 have HN:=Zh hn
 rw [← hn]at hl ⊢
 clear h hc hn
 go_enter Try.func65,Try.ntmps65
 go_wp2
 go_loopw [8] (fun iv wr => ∃(k:Nat),k≤n∧iv=Z O k∧Hid (∀ i,i<k→l[i]!≠s)∧w=wr) (fun iv _=>n-(intOf iv).toNat)
 case atStart=>exact⟨0,Nat.zero_le _,rfl,Zh (fun i hi=>by omega),rfl⟩
 case round =>
  obtain⟨k,hk,rfl,HNO,rfl⟩:=hrel
  by_cases hlt:k<n
  ·obtain⟨g,rfl,hg,hgc⟩:=HC.out (by rw [← HN.out];omega)
   have c0:=hgc k (by rw [← HN.out];exact hlt)
   have hkI:(k:Int)<(n:Int):=by omega
   obtain⟨x,hx⟩:∃ x,x=l[k]! :=⟨_,rfl⟩
   rw [← hx]at c0
   clear hgc
   by_cases he:s=x
   ·subst he
    go_wp2
    go_ret
    exact⟨⟨_,rfl,fun _=>by rw [hx];exact get_in (by rw [← HN.out];exact hlt),fun _=>by omega⟩,rfl⟩
   ·have hcc:(s == x)=false:=by simpa using he
    have HE:=Zh he;have HX:=Zh hx
    clear he hx
    go_wp2
    go_roundw
    case rel =>
     refine⟨k+1,by omega,by go_num,Zh (fun i hi=>?_),trivial⟩
     rcases Nat.lt_or_ge i k with h1 | h1
     ·exact HNO.out i h1
     ·rw [show i=k by omega,← HX.out];exact fun e=>HE.out e.symm
    case measure=>simp [intOf];omega
  ·have hkn:n=k:=by omega
   subst hkn
   go_wp2
   go_ret
   exact⟨⟨_,rfl,fun h=>by omega,fun h=>absurd h (mem_first (fun i hi=>HNO.out i (by rw [HN.out];exact hi)))⟩,rfl⟩
theorem containsInt_calls {v:Value}{l:List Int}(s:Int)(w:World)(h:w.ownsRow 0 3 1 v l.length (intCells l))(hl:l.length≤1000) :
  Calls Try.prog 49 #[v,Z O s] w fun e w'=>(∃ b:Bool,(b=true↔s ∈ l)∧e=.returned (.bool b))∧w=w':=by
 have HI:=Zh (indexInt_calls s w h hl)
 clear h hl
 go_enter Try.func49,Try.ntmps49
 go_wp2_with (go_at_call 65;refine HI.out.mono ?_;rintro e w1 ⟨⟨r,rfl,hr⟩,rfl⟩;have HR:=Zh hr;clear hr)
 go_ret
 exact⟨⟨_,by rw [← HR.out];simp,rfl⟩,rfl⟩
def codesOf (ds:List (Deed Code))(src:List Int):List Code:=src.map fun p=>ds[p.toNat]!.stack
theorem codes_step {ds:List (Deed Code)}{src:List Int}{q:Nat}(h:q<src.length):codesOf ds (src.take (q+1))=codesOf ds (src.take q)++[ds[(src[q]!).toNat]!.stack]:=by
 unfold codesOf
 rw [show src.take (q+1)=src.take q++[src[q]!]from by rw [getElem!_pos src q h,← List.take_append_getElem h]]
 simp
def SourcesDone (w:World)(codes:List Code)(e:Ending)(w':World):Prop :=
 ∃ v,e=.returned (.tuple #[v,Z O 0])∧Below w.heap.size w w'∧w'.ownsRow 0 9 1 v codes.length (strCells codes)
theorem row_zero {w:World}{base:Nat}{e:TypeId}{k n:Nat}{v:Value}{xs:List Value}(h:w.ownsRow base e k v n xs):w.ownsRow 0 e k v n xs :=
 ⟨h.1,h.2.imp id fun⟨g,cap,cur,h1,_,h3,h4,h5,h6,h7⟩ =>⟨g,cap,cur,h1,Nat.zero_le _,h3,h4,h5,h6,h7⟩⟩
theorem sources_calls (bef aft:Int)(v:Value)(ds:List (Deed Code))(k0:Nat)(w:World)(h:Held w.heap.size w 8 deedCells v ds)(hok:errYard bef aft ds=0)(hsz:∀ d ∈ ds,d.stack.size≤maxLen∧d.other.size≤maxLen)(hn:k0≤ds.length)(h12:k0≤12)(hf:(Yd.follow bef aft ds k0).2.2=0)(code:Code)(y:Stk Code)(hat:(Yd.follow bef aft ds k0).1.stacks[at_ (Yd.follow bef aft ds k0).1.stacks code]? = some y) :
  Calls Try.prog 26 #[.agg #[Z O bef,Z O aft,v],Z O k0,Zs code] w (SourcesDone w (codesOf ds y.src)):=by
 obtain⟨a,c,hv,_,hcs⟩:=h.slice
 have HCS:=Zh hcs
 have HFO:=Zh (fun(W:World) (hW:Below w.heap.size w W)=>stackAfter_calls bef aft v ds k0 W ((h.below hW).mono hW.size) hok hsz hn h12 hf code (List.getElem?_eq_some_iff.1 hat).1)
 have HAT:=Zh hat
 have HROOT:=Zh (rooted_at (bef:=bef) (aft:=aft) (i:=k0) (t:=(Yd.follow bef aft ds k0).1) (f:=(Yd.follow bef aft ds k0).2.2) (Prod.ext rfl (Prod.ext (by have:=(follow_count bef aft ds hn).2.1 hf;exact this) rfl)) (fun d hd=>(errDeeds_all (errYard_ok hok).2.2.2 d hd).fine) y (List.mem_of_getElem? hat))
 subst hv
 obtain⟨n,hnn⟩:∃ n,n=ds.length:=⟨_,rfl⟩
 have HN:=Zh hnn
 rw [← hnn]at HFO hn ⊢
 have hn40:n≤40:=by rw [hnn];exact(errYard_ok hok).2.2.1
 clear h hok hsz hf hnn hat hcs
 have HL0:=Zh (p:=Locs w (w.alloc (.cells #[Z O bef,Z O aft,Zl a n c] 24)) [(w.heap.size,24,[Z O bef,Z O aft,Zl a n c])] []) ((Locs.start w).alloc 24 [Z O bef,Z O aft,Zl a n c] rfl)
 go_enter Try.func26,Try.ntmps26
 go_upto_region 2 with(first
  | (go_at_call 50;refine(HFO.out _ HL0.out.low).mono ?_;rintro e w1 ⟨s0,k,x,pv,hfo,hsm,hkn,hx,rfl,hb,hrow⟩;obtain rfl:x=y:=(by have:=HAT.out;rw [hfo]at this;simp only at this;rw [hx]at this;exact Option.some.inj this);obtain⟨fa,fc,hfv,hfcs⟩:=ints_at hrow;subst hfv;have hlen:=asc_len (hsm.stacks _ (List.mem_of_getElem? hx)).asc (hsm.stacks _ (List.mem_of_getElem? hx)).src;have HFC:=Zh hfcs;obtain⟨code1,⟨dl,dh⟩,⟨wl,wh⟩,pil,boi,src⟩:=x;simp only at hlen HFC;obtain⟨fn,hfn⟩:∃ m,m=src.length:=⟨_,rfl⟩;have hfn40:fn≤40:=(by rw [hfn];omega);have HFN:=Zh hfn;rw [← hfn];have HL1:=Zh (HL0.out.below hb);have HOx:=Zh (p:=(#[Zs code1,Z O dl,Z O dh,Z O wl,Z O wh,Z O pil,Z O boi,Zl fa fn fc]:Array Value).all (·.oneCell')=true) (by simp [Value.oneCell']);clear hfo hsm hkn hx hb hrow hfcs hlen hfn)
  | ((with_reducible refine at_store 49 (.tmp 8) (.tmp 18) ?_);go_must (refine Zw rfl 49 (.tmp 8) (.tmp 18) rfl w1.heap.size 0 #[Zs code1,Z O dl,Z O dh,Z O wl,Z O wh,Z O pil,Z O boi,Zl fa fn fc] rfl rfl ((Blk.new w1 49 #[Zs ⟨#[]⟩,Z O 0,Z O 0,Z O 0,Z O 0,Z O 0,Z O 0,Zl none 0 0]).there (o:=0) (n:=8) (Zn rfl)) size_stack (HOx.out) ?_)))
 clear HL0 HFO HAT
 generalize w.heap.size=gy at HL1 ⊢
 have HYO:=Zh (fun W (hb:Below w1.heap.size w1 W)=>(HL1.out.blk 0 rfl).below hb)
 have HB1:=Zh HL1.out.low
 have HL2:=Zh (Locs.start w1)
 clear HL1
 have HL3:=Zh (p:=Locs w1 ((w1.alloc (.cells #[Zs ⟨#[]⟩,Z O 0,Z O 0,Z O 0,Z O 0,Z O 0,Z O 0,Zl none 0 0] 49)).setCells w1.heap.size 0 [Zs code1,Z O dl,Z O dh,Z O wl,Z O wh,Z O pil,Z O boi,Zl fa fn fc]) [(w1.heap.size,49,[Zs code1,Z O dl,Z O dh,Z O wl,Z O wh,Z O pil,Z O boi,Zl fa fn fc])] []) ((HL2.out.alloc 49 [Zs ⟨#[]⟩,Z O 0,Z O 0,Z O 0,Z O 0,Z O 0,Z O 0,Zl none 0 0] rfl).setLoc 0 [] [Zs ⟨#[]⟩,Z O 0,Z O 0,Z O 0,Z O 0,Z O 0,Z O 0,Zl none 0 0] [] [Zs code1,Z O dl,Z O dh,Z O wl,Z O wh,Z O pil,Z O boi,Zl fa fn fc] rfl rfl)
 clear HL2
 generalize((w1.alloc (.cells #[Zs ⟨#[]⟩,Z O 0,Z O 0,Z O 0,Z O 0,Z O 0,Z O 0,Zl none 0 0] 49)).setCells w1.heap.size 0 [Zs code1,Z O dl,Z O dh,Z O wl,Z O wh,Z O pil,Z O boi,Zl fa fn fc])=v1 at HL3 ⊢
 generalize w1.heap.size=gs at HL3 ⊢
 try simp only [Act.put]
 have s0:=HL3.out.at 0 7 (v:=Zl fa fn fc) rfl rfl
 go_wp2
 clear s0
 have HR0:=Zh (Rowed.nil w1 v1 ([(gs,49,[Zs code1,Z O dl,Z O dh,Z O wl,Z O wh,Z O pil,Z O boi,Zl fa fn fc])]:List (Nat × TypeId × List Value)) 9 1)
 go_loopw [10,26] (fun cv iv wr => ∃(q:Nat),q≤fn∧iv=Z O q∧Hid (Rowed w1 wr ([(gs,49,[Zs code1,Z O dl,Z O dh,Z O wl,Z O wh,Z O pil,Z O boi,Zl fa fn fc])]:List (Nat × TypeId × List Value)) 9 1 (cv) (q) (strCells (codesOf ds (src.take q))))∧Hid (Locs w1 wr [(gs,49,[Zs code1,Z O dl,Z O dh,Z O wl,Z O wh,Z O pil,Z O boi,Zl fa fn fc])] [])) (fun _ iv _=>fn-(intOf iv).toNat)
 case atStart=>exact⟨0,Nat.zero_le _,rfl,HR0,HL3⟩
 case round =>
  clear HL3 HR0
  obtain⟨q,hq,rfl,HR,HL4⟩:=hrel
  obtain⟨sa,sn,sc,rfl⟩:=row_slice HR.out.own
  by_cases hqt:q<fn
  ·have hqI:(q:Int)<(fn:Int):=by omega
   have hqs:q<src.length:=by rw [← HFN.out];exact hqt
   obtain⟨gf,rfl,hgf,hcf⟩:=HFC.out (by omega)
   have f0:=(HL4.out.low.cell (p:=⟨gf,q,none⟩) hgf).trans (hcf q hqs)
   obtain⟨hj0,hj1,d',hd',_,_⟩:=HROOT.out.src src[q]! (get_in hqs)
   obtain⟨jn,hjn⟩:∃ jn:Nat,src[q]! = (jn:Int):=⟨src[q]!.toNat,by omega⟩
   have hst:=codes_step (ds:=ds) hqs
   rw [hjn]at f0 hj0 hj1 hd' hst
   rw [Int.toNat_natCast]at hj1 hd' hst
   have hjl:jn<ds.length:=(List.getElem?_eq_some_iff.1 hd').1
   obtain⟨b,off,rfl,hbl,_,hcells⟩:=HCS.out (by omega)
   obtain⟨nm,hnm⟩:∃ nm,nm=ds[jn]!.stack:=⟨_,rfl⟩
   rw [← hnm]at hst
   have HST:=Zh hst
   have f1:=(show wr.cell? ⟨b,off+jn*8+2,none⟩=some (Zs nm)from((HB1.out.trans (HL4.out.low.mono HB1.out.size)).cell (p:=⟨b,off+jn*8+2,none⟩) hbl).trans (hcells jn hjl 2 _ (by rw [hnm];rfl)))
   have hjnI:(jn:Int)<(n:Int):=by rw [HN.out];omega
   have f2:=(HYO.out wr HL4.out.low).at 2 (Zl (some ⟨b,off,none⟩) n c) rfl
   clear hcf hjn hd' hcells hst hnm
   obtain⟨i1_,hi1,hi1a,hi1b,hi1c⟩:=info_parts info_string
   have HI1:=Zh hi1;have HI1a:=Zh hi1a;have HI1b:=Zh hi1b;have HI1c:=Zh hi1c
   have HA1:=Zh (show q+1≤maxLen∧(q+1)*16≤140737488355328 by unfold maxLen;omega)
   clear hi1 hi1a hi1b hi1c
   have HRa:=Zh (p:=Rowed w1 (wr.alloc (.cells #[Zs nm] 9)) ([(gs,49,[Zs code1,Z O dl,Z O dh,Z O wl,Z O wh,Z O pil,Z O boi,Zl (some ⟨gf,0,none⟩) fn fc]),(wr.heap.size,9,[Zs nm])]:List (Nat × TypeId × List Value)) 9 1 (Zl sa sn sc) (q) (strCells (codesOf ds (src.take q)))) (HR.out.alloc 9 [Zs nm] rfl)
   have HLa:=Zh (p:=Locs w1 (wr.alloc (.cells #[Zs nm] 9)) [(gs,49,[Zs code1,Z O dl,Z O dh,Z O wl,Z O wh,Z O pil,Z O boi,Zl (some ⟨gf,0,none⟩) fn fc]),(wr.heap.size,9,[Zs nm])] []) (HL4.out.alloc 9 [Zs nm] rfl)
   clear HR HL4
   go_wp2_with (at_builtin;refine wpList_append_lies _ rfl (.tmp 30) (.tmp 37) 65 rfl w1.heap.size 9 i1_ (Zs ⟨#[]⟩) 1 16 Try.underlying65 HI1.out HI1a.out HI1b.out HI1c.out rfl (by decide) (Zl sa sn sc) q (strCells (codesOf ds (src.take q))) rfl HRa.out.own ⟨wr.heap.size,0,none⟩ 1 1 [Zs nm] rfl rfl (World.news_of_block (heap_alloc_new wr _)) (by simp [Value.oneCell']) (by decide) HA1.out.1 HA1.out.2 HLa.out.low.size (wr.heap.size+1) (World.size_alloc _ _) ?_;intro g cap w7 hown7 hg7 hat7 hlt7;have HL7:=Zh (HLa.out.appended HRa.out hg7);have HR7:=Zh (Rowed.appended HLa.out HRa.out hown7 (by rw [World.size_alloc];exact hat7));clear hown7 hg7 hat7 hlt7 f0 f1 f2)
   go_roundw
   case rel =>
    refine⟨q+1,by omega,by go_num,Zh ?_,Zh (HL7.out.fewer (List.sublist_append_left ([(gs,49,[Zs code1,Z O dl,Z O dh,Z O wl,Z O wh,Z O pil,Z O boi,Zl (some ⟨gf,0,none⟩) fn fc])]:List (Nat × TypeId × List Value)) ([(wr.heap.size,9,[Zs nm])]:List (Nat × TypeId × List Value))) (List.Sublist.refl _))⟩
    rw [HST.out,show strCells (codesOf ds (src.take q)++[nm])=strCells (codesOf ds (src.take q))++[Zs nm]from by simp [strCells]]
    exact HR7.out.fewer (List.sublist_append_left ([(gs,49,[Zs code1,Z O dl,Z O dh,Z O wl,Z O wh,Z O pil,Z O boi,Zl (some ⟨gf,0,none⟩) fn fc])]:List (Nat × TypeId × List Value)) ([(wr.heap.size,9,[Zs nm])]:List (Nat × TypeId × List Value)))
   case measure=>simp [intOf];omega
  ·have hqe:fn=q:=by omega
   subst hqe
   go_wp2
   go_ret2
   refine⟨_,rfl,HB1.out.trans (HL4.out.low.mono HB1.out.size),?_⟩
   have h1:=row_zero HR.out.own
   rw [HFN.out,List.take_length]at h1
   have h2:(codesOf ds src).length=src.length:=by simp [codesOf]
   simp only
   rw [h2]
   exact h1
def holdersOf (p:Int)(rows:List SRow):List Code:=(rows.filter fun r=>decide (p ∈ r.1.src)).map fun r=>r.1.code
theorem holders_step {p:Int}{rows:List SRow}{q:Nat}{r:SRow}(h:rows[q]? = some r):holdersOf p (rows.take (q+1))=holdersOf p (rows.take q)++(if p ∈ r.1.src then [r.1.code]else []):=by
 obtain⟨hl,hr⟩:=List.getElem?_eq_some_iff.1 h
 unfold holdersOf
 rw [show rows.take (q+1)=rows.take q++[r]from by rw [← hr,← List.take_append_getElem hl],List.filter_append,List.map_append]
 congr 1
 by_cases hm:p ∈ r.1.src <;> simp [hm]
theorem holders_len {p:Int}{rows:List SRow}:(holdersOf p rows).length≤rows.length:=by unfold holdersOf;rw [List.length_map];exact List.length_filter_le _ _
def HoldersDone (w:World)(bef aft:Int)(ds:List (Deed Code))(k0:Nat)(p:Int)(e:Ending)(w':World):Prop :=
 ∃(v:Value) (rows:List SRow) (acc:Yd.Acc) (k:Nat),e=.returned (.tuple #[v,Z O 0])∧Below w.heap.size w w'∧Yd.follow bef aft ds k0=(stOf rows acc,k,0)∧rows.length≤8∧w'.ownsRow 0 9 1 v (holdersOf p rows).length (strCells (holdersOf p rows))
theorem holders_yes (bef aft:Int)(v:Value)(ds:List (Deed Code))(k0:Nat)(p:Nat)(w:World)(h:Held w.heap.size w 8 deedCells v ds)(hok:errYard bef aft ds=0)(hsz:∀ d ∈ ds,d.stack.size≤maxLen∧d.other.size≤maxLen)(hn:k0≤ds.length)(h12:k0≤12)(hp:p<ds.length)(hpk:p<k0)(hkind:ds[p]!.kind=1)(hf:(Yd.follow bef aft ds k0).2.2=0) :
  Calls Try.prog 24 #[.agg #[Z O bef,Z O aft,v],Z O k0,Z O p] w (HoldersDone w bef aft ds k0 p):=by
 obtain⟨a,c,hv,_,hcs⟩:=h.slice
 have HCS:=Zh hcs
 have HCF:=Zh (fun(W:World) (hW:Below w.heap.size w W)=>checkFirst_ok bef aft v ds k0 W ((h.below hW).mono hW.size) hok (fun d hd=>⟨Nat.le_trans (hsz d hd).1 (by decide),Nat.le_trans (hsz d hd).2 (by decide)⟩) ⟨by omega,by omega⟩)
 have HFO:=Zh (fun(W:World) (hW:Below w.heap.size w W)=>stacksAfter_calls bef aft v ds k0 W ((h.below hW).mono hW.size) hok hsz hn h12 hf)
 subst hv
 obtain⟨n,hnn⟩:∃ n,n=ds.length:=⟨_,rfl⟩
 have HN:=Zh hnn
 have hn40:n≤40:=by rw [hnn];exact(errYard_ok hok).2.2.1
 rw [← hnn]at HCF HFO hn hp ⊢
 obtain⟨b,off,rfl,hbl,_,hcells⟩:=HCS.out (by omega)
 obtain⟨kind,hkd⟩:∃ kind,kind=ds[p]!.kind:=⟨_,rfl⟩
 have HL0:=Zh (p:=Locs w (w.alloc (.cells #[Z O bef,Z O aft,Zl (some ⟨b,off,none⟩) n c] 24)) [(w.heap.size,24,[Z O bef,Z O aft,Zl (some ⟨b,off,none⟩) n c])] []) ((Locs.start w).alloc 24 [Z O bef,Z O aft,Zl (some ⟨b,off,none⟩) n c] rfl)
 have HK:=Zh (p:=w.cell? ⟨b,off+p*8,none⟩=some (Z O kind)) (hcells p (by rw [← hnn];exact hp) 0 _ (by rw [hkd];rfl))
 have HBL:=Zh hbl
 have hpI:(p:Int)<(n:Int):=by omega
 obtain rfl:kind=1:=by rw [hkd];exact hkind
 have hin:inB (p:Int) 0 ((k0:Int)-1)=true:=by simp [inB];omega
 clear hbl hcells hkd h hok hsz hnn hcs hkind hf
 go_enter Try.func24,Try.ntmps24
 go_wp2_with (first
  | (go_at_call 40;refine(HCF.out _ HL0.out.low).mono ?_;rintro e w1 ⟨rfl,hb⟩;have HL1:=Zh (HL0.out.below hb);have y0:=HL1.out.at 0 0 (v:=Z O bef) rfl rfl;have y1:=HL1.out.at 0 1 (v:=Z O aft) rfl rfl;have y2:=HL1.out.at 0 2 (v:=Zl (some ⟨b,off,none⟩) n c) rfl rfl;have yk:=(HL1.out.low.cell (p:=⟨b,off+p*8,none⟩) HBL.out).trans HK.out;clear hb)
  | (go_at_call 47;refine(within_calls _ _ _ _).mono ?_;rintro e w2 ⟨rfl,rfl⟩;rw [hin])
  | (go_at_call 48;refine(HFO.out _ HL1.out.low).mono ?_;rintro e w3 ⟨rows,tv,acc,k,hfo,_,_,rfl,hb3,hst⟩;obtain⟨ta,tn,tc,rfl⟩:=row_slice hst.things;have HFOL:=Zh hfo;have HST:=Zh hst;have HB3:=Zh (HL1.out.below hb3).low;clear hb3 hfo hst))
 clear y0 y1 y2 yk
 have HTN:=Zh (p:=tn=rows.length) (row_len HST.out.things)
 have htn8:tn≤8:=by rw [HTN.out];exact HST.out.few
 have HL4:=Zh (Locs.start w3)
 have HR0:=Zh (Rowed.nil w3 w3 ([]:List (Nat × TypeId × List Value)) 9 1)
 go_loopw [11,45] (fun cv iv wr => ∃(q:Nat),q≤tn∧iv=Z O q∧Hid (Rowed w3 wr ([]:List (Nat × TypeId × List Value)) 9 1 (cv) ((holdersOf p (rows.take q)).length) (strCells (holdersOf p (rows.take q))))∧Hid (Locs w3 wr [] [])) (fun _ iv _=>tn-(intOf iv).toNat)
 case atStart=>exact⟨0,Nat.zero_le _,rfl,HR0,HL4⟩
 case round =>
  clear HL4 HR0
  obtain⟨q,hq,rfl,HR,HL5⟩:=hrel
  obtain⟨sa,sn,sc,rfl⟩:=row_slice HR.out.own
  by_cases hqt:q<tn
  ·have hqI:(q:Int)<(tn:Int):=by omega
   have hqr:q<rows.length:=by rw [← HTN.out];exact hqt
   obtain⟨r,hr⟩:∃ r,rows[q]? = some r:=⟨_,List.getElem?_eq_getElem hqr⟩
   have hstep:=holders_step (p:=(p:Int)) hr
   have HSr:=Zh (HST.out.below HL5.out.low)
   obtain⟨gp,cp,hvp,hgp,hcp⟩:=HSr.out.row hr
   have hfr:=HSr.out.froms r (List.mem_of_getElem? hr)
   have hfl:=HSr.out.fromsLen r (List.mem_of_getElem? hr)
   obtain⟨fa,fn,fc,hfv⟩:=row_slice hfr
   have hle:=(holders_len (p:=(p:Int)) (rows:=rows.take q))
   obtain⟨⟨code1,⟨dl,dh⟩,⟨wl,wh⟩,pil,boi,src⟩,pv⟩:=r
   simp only at hfv hfr hfl hstep
   subst hfv
   have HFR2:=Zh (p:=∀ W,Below w3.heap.size w3 W→W.ownsRow 0 3 1 (Zl fa fn fc) src.length (intCells src)) (fun W hW=>(HST.out.below hW).froms (⟨code1,⟨dl,dh⟩,⟨wl,wh⟩,pil,boi,src⟩,Zl fa fn fc) (List.mem_of_getElem? hr));have HFL:=Zh hfl;have HSTEP:=Zh hstep
   injection hvp with e1 e2 e3
   subst e1 e3
   have c0:=(show wr.cell? ⟨gp,q*8,none⟩=some (Zs code1)from hcp 0 (by decide))
   have c1:=(show wr.cell? ⟨gp,q*8+1,none⟩=some (Z O dl)from hcp 1 (by decide))
   have c2:=(show wr.cell? ⟨gp,q*8+2,none⟩=some (Z O dh)from hcp 2 (by decide))
   have c3:=(show wr.cell? ⟨gp,q*8+3,none⟩=some (Z O wl)from hcp 3 (by decide))
   have c4:=(show wr.cell? ⟨gp,q*8+4,none⟩=some (Z O wh)from hcp 4 (by decide))
   have c5:=(show wr.cell? ⟨gp,q*8+5,none⟩=some (Z O pil)from hcp 5 (by decide))
   have c6:=(show wr.cell? ⟨gp,q*8+6,none⟩=some (Z O boi)from hcp 6 (by decide))
   have c7:=(show wr.cell? ⟨gp,q*8+7,none⟩=some (Zl fa fn fc)from hcp 7 (by decide))
   clear hcp hfr hfl hstep e2 hr
   have HRz:=Zh (HR.out.alloc 49 [Zs ⟨#[]⟩,Z O 0,Z O 0,Z O 0,Z O 0,Z O 0,Z O 0,Zl none 0 0] rfl)
   clear HR
   go_upto_region 13 with(((with_reducible refine at_store 49 (.tmp 13) (.tmp 48) ?_);go_must (refine Zw rfl 49 (.tmp 13) (.tmp 48) rfl wr.heap.size 0 #[Zs code1,Z O dl,Z O dh,Z O wl,Z O wh,Z O pil,Z O boi,Zl fa fn fc] rfl rfl ((Blk.new wr 49 #[Zs ⟨#[]⟩,Z O 0,Z O 0,Z O 0,Z O 0,Z O 0,Z O 0,Zl none 0 0]).there (o:=0) (n:=8) (Zn rfl)) size_stack ((by simp [Value.oneCell'])) ?_)))
   clear c0 c1 c2 c3 c4 c5 c6 c7
   have HR1:=Zh (p:=Rowed w3 ((wr.alloc (.cells #[Zs ⟨#[]⟩,Z O 0,Z O 0,Z O 0,Z O 0,Z O 0,Z O 0,Zl none 0 0] 49)).setCells wr.heap.size 0 [Zs code1,Z O dl,Z O dh,Z O wl,Z O wh,Z O pil,Z O boi,Zl fa fn fc]) ([(wr.heap.size,49,[Zs code1,Z O dl,Z O dh,Z O wl,Z O wh,Z O pil,Z O boi,Zl fa fn fc])]:List (Nat × TypeId × List Value)) 9 1 (Zl sa sn sc) ((holdersOf p (rows.take q)).length) (strCells (holdersOf p (rows.take q)))) (HRz.out.setLoc 0 rfl 0 [Zs code1,Z O dl,Z O dh,Z O wl,Z O wh,Z O pil,Z O boi,Zl fa fn fc])
   clear HRz
   have HL6:=Zh (p:=Locs w3 ((wr.alloc (.cells #[Zs ⟨#[]⟩,Z O 0,Z O 0,Z O 0,Z O 0,Z O 0,Z O 0,Zl none 0 0] 49)).setCells wr.heap.size 0 [Zs code1,Z O dl,Z O dh,Z O wl,Z O wh,Z O pil,Z O boi,Zl fa fn fc]) [(wr.heap.size,49,[Zs code1,Z O dl,Z O dh,Z O wl,Z O wh,Z O pil,Z O boi,Zl fa fn fc])] []) ((HL5.out.alloc 49 [Zs ⟨#[]⟩,Z O 0,Z O 0,Z O 0,Z O 0,Z O 0,Z O 0,Zl none 0 0] rfl).setLoc 0 [] [Zs ⟨#[]⟩,Z O 0,Z O 0,Z O 0,Z O 0,Z O 0,Z O 0,Zl none 0 0] [] [Zs code1,Z O dl,Z O dh,Z O wl,Z O wh,Z O pil,Z O boi,Zl fa fn fc] rfl rfl)
   clear HL5
   generalize((wr.alloc (.cells #[Zs ⟨#[]⟩,Z O 0,Z O 0,Z O 0,Z O 0,Z O 0,Z O 0,Zl none 0 0] 49)).setCells wr.heap.size 0 [Zs code1,Z O dl,Z O dh,Z O wl,Z O wh,Z O pil,Z O boi,Zl fa fn fc])=v1 at HL6 HR1 ⊢
   generalize wr.heap.size=gx at HL6 HR1 ⊢
   try simp only [Act.put]
   have z0:=HL6.out.at 0 0 (v:=Zs code1) rfl rfl
   have z1:=HL6.out.at 0 7 (v:=Zl fa fn fc) rfl rfl
   skip
   have HCO:=Zh (containsInt_calls (p:Int) v1 (HFR2.out v1 HL6.out.low) HFL.out)
   skip
   skip
   obtain⟨i1_,hi1,hi1a,hi1b,hi1c⟩:=info_parts info_string
   have HI1:=Zh hi1;have HI1a:=Zh hi1a;have HI1b:=Zh hi1b;have HI1c:=Zh hi1c
   obtain⟨m,hm⟩:∃ m,m=(holdersOf p (rows.take q)).length:=⟨_,rfl⟩
   rw [← hm]at HR1 hle
   rw [List.length_take]at hle
   have hm8:m≤8:=by omega
   have HM:=Zh hm
   have HA1:=Zh (show m+1≤maxLen∧(m+1)*16≤140737488355328 by unfold maxLen;omega)
   clear hi1 hi1a hi1b hi1c hm hle
   have HRa:=Zh (p:=Rowed w3 (v1.alloc (.cells #[Zs code1] 9)) ([(gx,49,[Zs code1,Z O dl,Z O dh,Z O wl,Z O wh,Z O pil,Z O boi,Zl fa fn fc]),(v1.heap.size,9,[Zs code1])]:List (Nat × TypeId × List Value)) 9 1 (Zl sa sn sc) (m) (strCells (holdersOf p (rows.take q)))) (HR1.out.alloc 9 [Zs code1] rfl)
   have HLa:=Zh (p:=Locs w3 (v1.alloc (.cells #[Zs code1] 9)) [(gx,49,[Zs code1,Z O dl,Z O dh,Z O wl,Z O wh,Z O pil,Z O boi,Zl fa fn fc]),(v1.heap.size,9,[Zs code1])] []) (HL6.out.alloc 9 [Zs code1] rfl)
   go_wp2_with (first
    | (go_at_call 49;refine HCO.out.mono ?_;rintro e w4 ⟨⟨bb,hbb,rfl⟩,rfl⟩;have HBB:=Zh hbb;clear hbb;cases bb)
    | (at_builtin;refine wpList_append_lies _ rfl (.tmp 53) (.tmp 56) 65 rfl w3.heap.size 9 i1_ (Zs ⟨#[]⟩) 1 16 Try.underlying65 HI1.out HI1a.out HI1b.out HI1c.out rfl (by decide) (Zl sa sn sc) m (strCells (holdersOf p (rows.take q))) rfl HRa.out.own ⟨v1.heap.size,0,none⟩ 1 1 [Zs code1] rfl rfl (World.news_of_block (heap_alloc_new v1 _)) (by simp [Value.oneCell']) (by decide) HA1.out.1 HA1.out.2 HLa.out.low.size (v1.heap.size+1) (World.size_alloc _ _) ?_;intro g cap w7 hown7 hg7 hat7 hlt7;have HL7:=Zh (HLa.out.appended HRa.out hg7);have HR7:=Zh (Rowed.appended HLa.out HRa.out hown7 (by rw [World.size_alloc];exact hat7));clear hown7 hg7 hat7 hlt7))
   all_goals go_roundw
   ·have e:holdersOf (p:Int) (rows.take (q+1))=holdersOf (p:Int) (rows.take q):=by rw [HSTEP.out,if_neg (fun h=>by have:=HBB.out.2 h;cases this),List.append_nil]
    refine⟨q+1,by omega,by go_num,Zh ?_,Zh (HL6.out.fewer (List.nil_sublist _) (List.Sublist.refl _))⟩
    rw [e,← HM.out]
    exact HR1.out.fewer (List.nil_sublist _)
   ·simp [intOf];omega
   ·have e:holdersOf (p:Int) (rows.take (q+1))=holdersOf (p:Int) (rows.take q)++[code1]:=by rw [HSTEP.out,if_pos (HBB.out.1 (by simp))]
    refine⟨q+1,by omega,by go_num,Zh ?_,Zh (HL7.out.fewer (List.nil_sublist _) (List.Sublist.refl _))⟩
    rw [e,List.length_append,← HM.out,show strCells (holdersOf (p:Int) (rows.take q)++[code1])=strCells (holdersOf (p:Int) (rows.take q))++[Zs code1]from by simp [strCells]]
    exact HR7.out.fewer (List.nil_sublist _)
   ·simp [intOf];omega
  ·have hqe:tn=q:=by omega
   subst hqe
   go_wp2
   go_ret2
   refine⟨_,rows,acc,k,rfl,HB3.out.trans (HL5.out.low.mono HB3.out.size),HFOL.out,by rw [← HTN.out];exact htn8,?_⟩
   have h1:=row_zero HR.out.own
   rw [HTN.out,List.take_length]at h1
   exact h1
end Go.Proofs.Ytgekekhbhkgekaa
