/- Sources at any yard: the program's and the document's; two lists of the same codes. Holders at any yard: the program's and the document's. YardOrigins: the law's walk. -/
import Derived.Test.YtgekekhbhkgekaaRYStackAny
import Derived.Test.YtgekekhbhkgekaaRYHolders
import Derived.Test.YtgekekhbhkgekaaRYLocs
namespace Go.Proofs.Ytgekekhbhkgekaa
open Go Go.RowKit Go.Shelf Yd
open Go.Value renaming int→Z,string→Zs,slice→Zl
open Go.IntKind renaming i64→O
open Go.Lib renaming hid→Zh
open _root_.List renaming setIfInBounds_toArray→Za,set_cons_succ→Zb,set_cons_zero→Zc
open _root_.Nat renaming le_of_ble_eq_true→Zn
open Go renaming wpList_store_mid→Zw,cell_regrown→Zg,below_regrown→Zk
set_option maxRecDepth 100000
set_option maxHeartbeats 16000000
set_option linter.unusedSimpArgs false
theorem both_nil (l:List Int):both l []=l:=by cases l <;> simp [both]
theorem both_one:∀ {l:List Int} {p:Int},Asc l→((both l [p]).length=l.length↔p ∈ l)
 | [],p,_=>by simp [both]
 | a :: l,p,h=>by
   have h1:=List.pairwise_cons.1 h
   have ih:=both_one (l:=l) (p:=p) h1.2
   rw [both]
   by_cases h2:a<p
   ·rw [if_pos h2,List.length_cons,List.length_cons,List.mem_cons]
    constructor
    ·intro h3
     exact .inr (ih.1 (by omega))
    ·rintro(h3 | h3)
     ·omega
     ·rw [ih.2 h3]
   ·rw [if_neg h2]
    by_cases h3:p<a
    ·rw [if_pos h3,both_nil]
     simp only [List.length_cons,List.mem_cons]
     constructor
     ·intro h4;omega
     ·rintro(h4 | h4)
      ·omega
      ·have:=h1.1 p h4;omega
    ·rw [if_neg h3,both_nil]
     simp only [List.mem_cons,true_iff]
     exact .inl (by omega)
theorem zero_err {bef aft:Int}{ds:List (Deed Code)}{n:Int}{code:Code}(h:stackErr (followAny bef aft ds n) code false=0) :
  errFirst bef aft ds n=0∧(Yd.follow bef aft ds n.toNat).2.2=0∧(followAny bef aft ds n).1=(Yd.follow bef aft ds n.toNat).1∧at_ (followAny bef aft ds n).1.stacks code<(followAny bef aft ds n).1.stacks.length:=by
 have he:=followAny_err bef aft ds n
 have h0:errFirst bef aft ds n=0:=by
  unfold stackErr at h
  split at h
  ·rename_i h1;exact absurd h h1
  ·rename_i h1;rw [← he];exact Decidable.not_not.1 h1
 have hf:followAny bef aft ds n=((Yd.follow bef aft ds n.toNat).1,((Yd.follow bef aft ds n.toNat).2.1:Int),(Yd.follow bef aft ds n.toNat).2.2,0):=by unfold followAny;rw [if_pos h0]
 unfold stackErr at h
 rw [hf]at h ⊢
 rw [if_neg (by simp),if_neg (by simp)]at h
 split at h
 ·cases h
 ·rename_i h2
  split at h
  ·rename_i h3;exact⟨h0,Decidable.not_not.1 h2,rfl,h3⟩
  ·cases h
theorem src_in {bef aft:Int}{ds:List (Deed Code)}{n:Int}{code:Code}(hg:greatB ds=false)(h:stackErr (followAny bef aft ds n) code false=0)(x:Stk Code)(hx:(followAny bef aft ds n).1.stacks[at_ (followAny bef aft ds n).1.stacks code]? = some x):∀ p ∈ x.src,0≤p∧p.toNat<ds.length:=by
 obtain⟨h1,h2,h3,_⟩:=zero_err h
 obtain⟨h4,h5,h6⟩:=nat_few hg h1
 rw [h3]at hx
 have hr:=rooted_at (bef:=bef) (aft:=aft) (i:=n.toNat) (t:=(Yd.follow bef aft ds n.toNat).1) (f:=(Yd.follow bef aft ds n.toNat).2.2) (Prod.ext rfl (Prod.ext (by have:=(follow_count bef aft ds h5).2.1 h2;exact this) rfl)) (fun d hd=>(errDeeds_all (errYard_ok (errFirst_zero h1).1).2.2.2 d hd).fine) x (List.mem_of_getElem? hx)
 intro p hp
 obtain⟨a1,a2,_⟩:=hr.src p hp
 exact⟨a1,by omega⟩
def sRes (ds:List (Deed Code))(R:St Code × Int × Int × Int)(code:Code):List Code:=if stackErr R code false=0 then codesOf ds (theStack R code).src else []
def CodesAny (w:World)(codes:List Code)(er:Int)(e:Ending)(w':World):Prop :=
 ∃ v,e=.returned (.tuple #[v,Z O er])∧Below w.heap.size w w'∧w'.ownsRow 0 9 1 v codes.length (strCells codes)
theorem codes_none (w:World):w.ownsRow 0 9 1 (Zl none 0 0) ([]:List Code).length (strCells []):=World.ownsRow_nil _ _ _ _
theorem samecodes_calls {v v':Value}{l:List Code}{w:World}(h:w.ownsRow 0 9 1 v l.length (strCells l))(h':w.ownsRow 0 9 1 v' l.length (strCells l)) :
  Calls Try.prog 35 #[v,v'] w fun e w'=>e=.returned (.bool true)∧Below w.heap.size w w':=by
 have hl:l.length≤9223372036854775807:=by
  obtain⟨_,⟨_,h0⟩ | ⟨g,cap,cur,_,_,_,hc,hm,_,_⟩⟩:=h
  ·omega
  ·unfold maxLen at hm;omega
 obtain⟨a,c,rfl,hc⟩:=strs_at h
 obtain⟨a',c',rfl,hc'⟩:=strs_at h'
 have HC:=Zh hc;have HC':=Zh hc'
 obtain⟨n,hn⟩:∃ n,n=l.length:=⟨_,rfl⟩
 have HN:=Zh hn
 rw [← hn]at hl ⊢
 clear h h' hc hc' hn
 go_enter Try.func35,Try.ntmps35
 go_wp2
 go_loopw [5] (fun iv wr => ∃(k:Nat),k≤n∧iv=Z O k∧Hid (Below w.heap.size w wr)) (fun iv _=>n-(intOf iv).toNat)
 case atStart=>exact⟨0,Nat.zero_le _,rfl,Zh (Below.refl _ _)⟩
 case round =>
  obtain⟨k,hk,rfl,HB⟩:=hrel
  by_cases hlt:k<n
  ·obtain⟨g,rfl,hg,hgc⟩:=HC.out (by rw [← HN.out];omega)
   obtain⟨g',rfl,hg',hgc'⟩:=HC'.out (by rw [← HN.out];omega)
   have q0:=Zg ((HB.out.cell (p:=⟨g,k,none⟩) hg).trans (hgc k (by rw [← HN.out];exact hlt)))
   have q1:=Zg ((HB.out.cell (p:=⟨g',k,none⟩) hg').trans (hgc' k (by rw [← HN.out];exact hlt)))
   generalize l[k]! = x at q0 q1
   have hkI:(k:Int)<(n:Int):=by omega
   clear hgc hgc'
   go_upto_region 6 with(fail)
   refine wp_region_quiet_below (by kernel_rfl) (by kernel_rfl) ?_
   repeat(go_big_quiet_step (fail))
   refine wpQuiet_nil ?_
   intro v0 hw'
   have hb8:Below wr.heap.size wr v0:=by obtain⟨⟨dq,osq⟩,hw''⟩:=hw';rw [hw''];exact Zk wr dq osq
   clear hw' q0 q1
   go_wp2
   go_roundw
   case rel=>exact⟨k+1,by omega,by go_num,Zh (HB.out.trans (hb8.mono HB.out.size))⟩
   case measure=>simp [intOf];omega
  ·have hkn:k=n:=by omega
   subst hkn
   go_wp2
   go_ret
   exact⟨rfl,HB.out⟩
theorem sources_any (bef aft:Int)(v:Value)(ds:List (Deed Code))(n:Int)(code:Code)(w:World)(h:Held w.heap.size w 8 deedCells v ds)(hsz:∀ d ∈ ds,d.stack.size≤maxLen∧d.other.size≤maxLen)(hg:greatB ds=false) :
  Calls Try.prog 26 #[.agg #[Z O bef,Z O aft,v],Z O n,Zs code] w (CodesAny w (sRes ds (followAny bef aft ds n) code) (stackErr (followAny bef aft ds n) code false)):=by
 by_cases h0:stackErr (followAny bef aft ds n) code false=0
 ·obtain⟨h1,h2,h3,h4⟩:=zero_err h0
  obtain⟨h5,h6,h7⟩:=nat_few hg h1
  obtain⟨y,hy⟩:∃ y,(followAny bef aft ds n).1.stacks[at_ (followAny bef aft ds n).1.stacks code]? = some y:=⟨_,List.getElem?_eq_getElem h4⟩
  have hy2:theStack (followAny bef aft ds n) code=y:=the_stack hy
  rw [h3]at hy
  have:=sources_calls bef aft v ds n.toNat w h (errFirst_zero h1).1 hsz h6 h7 h2 code y hy
  rw [h5]at this
  refine this.mono fun e w' hd=>?_
  obtain⟨u,rfl,hb,ho⟩:=hd
  refine⟨u,by rw [h0],hb,?_⟩
  unfold sRes
  rw [if_pos h0,hy2]
  exact ho
 have HC:=Zh (fun(W:World) (hW:Below w.heap.size w W)=>stackAfter_any bef aft v ds n code W ((h.below hW).mono hW.size) hsz hg)
 have HE:=Zh (p:=sRes ds (followAny bef aft ds n) code = []) (by unfold sRes;rw [if_neg h0])
 obtain⟨a,c,rfl,_,_⟩:=h.slice
 obtain⟨m,hm⟩:∃ m,m=ds.length:=⟨_,rfl⟩
 rw [← hm]at HC ⊢
 obtain⟨ser,hser⟩:∃ x,x=stackErr (followAny bef aft ds n) code false:=⟨_,rfl⟩
 rw [← hser]at HC h0 ⊢
 have HR:=Zh (p:=∀ W,Below w.heap.size w W→CodesAny w (sRes ds (followAny bef aft ds n) code) ser (.returned (.tuple #[Zl none 0 0,Z O ser])) W) (fun W hW=>⟨_,rfl,hW,by rw [HE.out];exact codes_none W⟩)
 generalize CodesAny w (sRes ds (followAny bef aft ds n) code) ser=Q at HR ⊢
 clear h hsz hg hm hser HE
 have d1:(ser == 0)=false:=by simpa using h0
 have d2:(ser != 0)=true:=by simpa using h0
 clear h0
 have HL0:=Zh (p:=Locs w (w.alloc (.cells #[Z O bef,Z O aft,Zl a m c] 24)) [(w.heap.size,24,[Z O bef,Z O aft,Zl a m c])] []) ((Locs.start w).alloc 24 [Z O bef,Z O aft,Zl a m c] rfl)
 go_enter Try.func26,Try.ntmps26
 go_upto_region 2 with(first
  | (go_at_call 50;refine(HC.out _ HL0.out.low).mono ?_;rintro e w3 ⟨s,dl,dh,wl,wh,pil,boi,fa,fn,fc,rfl,hb,hx⟩;have HL1:=Zh (HL0.out.below hb);clear hb hx)
  | ((with_reducible refine at_store 49 (.tmp 8) (.tmp 18) ?_);go_must (refine Zw rfl 49 (.tmp 8) (.tmp 18) rfl w3.heap.size 0 #[Zs s,Z O dl,Z O dh,Z O wl,Z O wh,Z O pil,Z O boi,Zl fa fn fc] rfl rfl ((Blk.new w3 49 #[Zs ⟨#[]⟩,Z O 0,Z O 0,Z O 0,Z O 0,Z O 0,Z O 0,Zl none 0 0]).there (o:=0) (n:=8) (Zn rfl)) size_stackK (by simp [Value.oneCell']) ?_)))
 clear HL0 HC
 have HL2:=Zh (p:=Locs w ((w3.alloc (.cells #[Zs ⟨#[]⟩,Z O 0,Z O 0,Z O 0,Z O 0,Z O 0,Z O 0,Zl none 0 0] 49)).setCells w3.heap.size 0 [Zs s,Z O dl,Z O dh,Z O wl,Z O wh,Z O pil,Z O boi,Zl fa fn fc]) [(w.heap.size,24,[Z O bef,Z O aft,Zl a m c]),(w3.heap.size,49,[Zs s,Z O dl,Z O dh,Z O wl,Z O wh,Z O pil,Z O boi,Zl fa fn fc])] []) ((HL1.out.alloc 49 [Zs ⟨#[]⟩,Z O 0,Z O 0,Z O 0,Z O 0,Z O 0,Z O 0,Zl none 0 0] rfl).setLoc 1 [] [Zs ⟨#[]⟩,Z O 0,Z O 0,Z O 0,Z O 0,Z O 0,Z O 0,Zl none 0 0] [] [Zs s,Z O dl,Z O dh,Z O wl,Z O wh,Z O pil,Z O boi,Zl fa fn fc] rfl rfl)
 clear HL1
 generalize((w3.alloc (.cells #[Zs ⟨#[]⟩,Z O 0,Z O 0,Z O 0,Z O 0,Z O 0,Z O 0,Zl none 0 0] 49)).setCells w3.heap.size 0 [Zs s,Z O dl,Z O dh,Z O wl,Z O wh,Z O pil,Z O boi,Zl fa fn fc])=v1 at HL2 ⊢
 generalize w3.heap.size=gk at HL2 ⊢
 try simp only [Act.put]
 go_wp2
 exact HR.out _ HL2.out.low
theorem rsources_any (bef aft:Int)(v:Value)(ds:List (Deed Code))(n:Int)(code:Code)(w:World)(h:Held w.heap.size w 8 deedCells v ds)(hsz:∀ d ∈ ds,d.stack.size≤maxLen∧d.other.size≤maxLen)(hg:greatB ds=false) :
  Calls Try.prog 34 #[.agg #[Z O bef,Z O aft,v],Z O n,Zs code] w (CodesAny w (sRes ds (followAny bef aft ds n) code) (stackErr (followAny bef aft ds n) code false)):=by
 have HC:=Zh (fun(W:World) (hW:Below w.heap.size w W)=>rstack_any bef aft v ds n code false W ((h.below hW).mono hW.size) hsz hg)
 have HSI:=Zh (fun h0=>src_in (bef:=bef) (aft:=aft) (n:=n) (code:=code) hg h0)
 obtain⟨a,c,rfl,_,hcs⟩:=h.slice
 have HCS:=Zh hcs
 obtain⟨m,hm⟩:∃ m,m=ds.length:=⟨_,rfl⟩
 have HM:=Zh hm
 rw [← hm]at HC ⊢
 obtain⟨R,hR⟩:∃ R,R=followAny bef aft ds n:=⟨_,rfl⟩
 rw [← hR]at HC HSI ⊢
 obtain⟨ser,hser⟩:∃ x,x=stackErr R code false:=⟨_,rfl⟩
 rw [← hser]at HC HSI ⊢
 have HSER:=Zh hser
 clear h hsz hg hm hR hser hcs
 have HL0:=Zh (p:=Locs w (w.alloc (.cells #[Z O bef,Z O aft,Zl a m c] 24)) [(w.heap.size,24,[Z O bef,Z O aft,Zl a m c])] []) ((Locs.start w).alloc 24 [Z O bef,Z O aft,Zl a m c] rfl)
 go_enter Try.func34,Try.ntmps34
 go_upto_region 2 with(first
  | (go_at_call 55;refine(HC.out _ HL0.out.low).mono ?_;rintro e w1 ⟨s,dl,dh,wl,wh,pil,boi,fa,fn,fc,rfl,hb,hx⟩;have HX:=Zh hx;have HL1:=Zh (HL0.out.below hb);clear hb hx)
  | ((with_reducible refine at_store 49 (.tmp 8) (.tmp 17) ?_);go_must (refine Zw rfl 49 (.tmp 8) (.tmp 17) rfl w1.heap.size 0 #[Zs s,Z O dl,Z O dh,Z O wl,Z O wh,Z O pil,Z O boi,Zl fa fn fc] rfl rfl ((Blk.new w1 49 #[Zs ⟨#[]⟩,Z O 0,Z O 0,Z O 0,Z O 0,Z O 0,Z O 0,Zl none 0 0]).there (o:=0) (n:=8) (Zn rfl)) size_stackK (by simp [Value.oneCell']) ?_)))
 clear HL0 HC
 generalize w.heap.size=gy at HL1 ⊢
 have HYO:=Zh (fun W (hb:Below w1.heap.size w1 W)=>(HL1.out.blk 0 rfl).below hb)
 have HB1:=Zh HL1.out.low
 have HL2:=Zh (Locs.start w1)
 clear HL1
 have HL3:=Zh (p:=Locs w1 ((w1.alloc (.cells #[Zs ⟨#[]⟩,Z O 0,Z O 0,Z O 0,Z O 0,Z O 0,Z O 0,Zl none 0 0] 49)).setCells w1.heap.size 0 [Zs s,Z O dl,Z O dh,Z O wl,Z O wh,Z O pil,Z O boi,Zl fa fn fc]) [(w1.heap.size,49,[Zs s,Z O dl,Z O dh,Z O wl,Z O wh,Z O pil,Z O boi,Zl fa fn fc])] []) ((HL2.out.alloc 49 [Zs ⟨#[]⟩,Z O 0,Z O 0,Z O 0,Z O 0,Z O 0,Z O 0,Zl none 0 0] rfl).setLoc 0 [] [Zs ⟨#[]⟩,Z O 0,Z O 0,Z O 0,Z O 0,Z O 0,Z O 0,Zl none 0 0] [] [Zs s,Z O dl,Z O dh,Z O wl,Z O wh,Z O pil,Z O boi,Zl fa fn fc] rfl rfl)
 clear HL2
 generalize((w1.alloc (.cells #[Zs ⟨#[]⟩,Z O 0,Z O 0,Z O 0,Z O 0,Z O 0,Z O 0,Zl none 0 0] 49)).setCells w1.heap.size 0 [Zs s,Z O dl,Z O dh,Z O wl,Z O wh,Z O pil,Z O boi,Zl fa fn fc])=v1 at HL3 ⊢
 generalize w1.heap.size=gs at HL3 ⊢
 try simp only [Act.put]
 by_cases h1:ser=0
 rotate_left
 ·have d1:(ser == 0)=false:=by simpa using h1
  have d2:(ser != 0)=true:=by simpa using h1
  have HE:=Zh (p:=sRes ds R code = []) (by unfold sRes;rw [if_neg (by rw [← HSER.out];exact h1)])
  clear h1 HX HSI
  go_wp2
  go_ret2
  exact⟨_,rfl,HB1.out.trans (HL3.out.low.mono HB1.out.size),by rw [HE.out];exact codes_none _⟩
 subst h1
 obtain⟨src,hx,⟨q0,hq0,hs0⟩,hrow⟩:=HX.out rfl
 have HTS:=Zh (p:=sRes ds R code=codesOf ds src) (by unfold sRes;rw [if_pos HSER.out.symm,the_stack hx])
 have HSR:=Zh (HSI.out rfl _ hx)
 have hlen:=asc_len hs0.asc hs0.src
 simp only at hlen
 obtain⟨fa',fc',hfv,hfcs⟩:=ints_at hrow
 have hfcap:src.length≤fc':=by
  rcases Nat.eq_zero_or_pos src.length with h0 | h0
  ·omega
  ·obtain⟨g',cap',cur',hv',_,hc',_⟩:=row_block hrow h0
   rw [hfv]at hv'
   injection hv' with _ _ e3
   omega
 injection hfv with e1 e2 e3
 subst e1 e3
 have HFC:=Zh hfcs
 obtain rfl:=e2
 obtain⟨fn,hfn⟩:∃ m,m=src.length:=⟨_,rfl⟩
 have hfn40:fn≤40:=by rw [hfn];omega
 have HFN:=Zh hfn
 rw [← hfn]at HL3 hfcap ⊢
 clear hx hs0 hrow hfcs hlen hfn HX HSI
 have s0:=HL3.out.at 0 7 (v:=Zl fa fn fc) rfl rfl
 go_wp2
 clear s0
 have HR0:=Zh (Rowed.nil w1 v1 ([(gs,49,[Zs s,Z O dl,Z O dh,Z O wl,Z O wh,Z O pil,Z O boi,Zl fa fn fc])]:List (Nat × TypeId × List Value)) 9 1)
 go_loopw [10,11] (fun cv iv wr => ∃(q:Nat),q≤fn∧iv=Z O q∧Hid (Rowed w1 wr ([(gs,49,[Zs s,Z O dl,Z O dh,Z O wl,Z O wh,Z O pil,Z O boi,Zl fa fn fc])]:List (Nat × TypeId × List Value)) 9 1 (cv) (q) (strCells (codesOf ds (src.take q))))∧Hid (Locs w1 wr [(gs,49,[Zs s,Z O dl,Z O dh,Z O wl,Z O wh,Z O pil,Z O boi,Zl fa fn fc])] [])) (fun _ iv _=>fn-(intOf iv).toNat)
 case atStart=>exact⟨0,Nat.zero_le _,rfl,HR0,HL3⟩
 case round =>
  clear HL3 HR0
  obtain⟨q,hq,rfl,HR,HL4⟩:=hrel
  obtain⟨sa,sn,sc,rfl⟩:=row_slice HR.out.own
  by_cases hqt:q<fn
  ·have hqI:(q:Int)<(fn:Int):=by omega
   have hq0:(0:Int)≤(q:Int):=by omega
   have hqs:q<src.length:=by rw [← HFN.out];exact hqt
   obtain⟨gf,rfl,hgf,hcf⟩:=HFC.out (by omega)
   obtain⟨hj0,hj1⟩:=HSR.out src[q]! (get_in hqs)
   obtain⟨jn,hjn⟩:∃ jn:Nat,src[q]! = (jn:Int):=⟨src[q]!.toNat,by omega⟩
   have hst:=codes_step (ds:=ds) hqs
   have hf0:=hcf q hqs
   skip
   rw [hjn]at hj0 hj1 hst hf0
   rw [Int.toNat_natCast]at hj1 hst
   obtain⟨b,off,rfl,hbl,⟨hnc,hcm⟩,hcells⟩:=HCS.out (by omega)
   obtain⟨nm,hnm⟩:∃ nm,nm=ds[jn]!.stack:=⟨_,rfl⟩
   rw [← hnm]at hst
   have HST:=Zh hst
   have HF0:=Zh (fun W (hW:Below w1.heap.size w1 W)=>(hW.cell (p:=⟨gf,q,none⟩) hgf).trans hf0)
   have HF1:=Zh (p:=∀ W,Below w1.heap.size w1 W→W.cell? ⟨b,off+jn*8+2,none⟩=some (Zs nm)) (fun W hW=>((HB1.out.trans (hW.mono HB1.out.size)).cell (p:=⟨b,off+jn*8+2,none⟩) hbl).trans (hcells jn hj1 2 _ (by rw [hnm];rfl)))
   rw [← HM.out]at hj1 hnc
   have hjI:(jn:Int)<(m:Int):=by omega
   clear hcf hjn hf0 hcells hst hnm
   obtain⟨i1_,hi1,hi1a,hi1b,hi1c⟩:=info_parts info_string
   have HI1:=Zh hi1;have HI1a:=Zh hi1a;have HI1b:=Zh hi1b;have HI1c:=Zh hi1c
   have HA1:=Zh (show q+1≤maxLen∧(q+1)*16≤140737488355328 by unfold maxLen;omega)
   clear hi1 hi1a hi1b hi1c
   have s0:=HL4.out.at 0 7 (v:=Zl (some ⟨gf,0,none⟩) fn fc) rfl rfl
   go_upto_region 8 with fail
   clear s0
   refine region_till [] (fun w'=>w'.cell? ⟨gy,2,none⟩=some (Zl (some ⟨b,off,none⟩) m c)∧w'.cell? ⟨gs,7,none⟩=some (Zl (some ⟨gf,0,none⟩) fn fc)∧w'.cell? ⟨gf,q,none⟩=some (Z O jn)∧w'.cell? ⟨b,off+jn*8+2,none⟩=some (Zs nm)) 14 [false,false,false,false,false,false,false,false,false,false,false,false,false,false] (by kernel_rfl) rfl rfl ?_
   have MK1:=fun(W:World) (h:(fun w'=>w'.cell? ⟨gy,2,none⟩=some (Zl (some ⟨b,off,none⟩) m c)∧w'.cell? ⟨gs,7,none⟩=some (Zl (some ⟨gf,0,none⟩) fn fc)∧w'.cell? ⟨gf,q,none⟩=some (Z O jn)∧w'.cell? ⟨b,off+jn*8+2,none⟩=some (Zs nm)) W)=>Zh h
   have HL5:=Zh (HL4.out.drew)
   have HRd:=Zh (HR.out.below (Below.refl wr.heap.size wr).drew)
   generalize wr.drew=v2 at HL5 HRd ⊢
   have HT:=MK1 v2 ⟨(HYO.out _ HL5.out.low).at 2 _ rfl,HL5.out.at 0 7 (v:=Zl (some ⟨gf,0,none⟩) fn fc) rfl rfl,HF0.out _ HL5.out.low,HF1.out _ HL5.out.low⟩
   refine till_pure (i:=0) (v:=Zl sa sn sc) rfl rfl (by kernel_rfl) (fun _ _ _ h=>h) (yields_of rfl (fun w' _=>by simp [go_sem])) (fun _=>HT.out) ?_
   try simp only [Za,Zb,Zc]
   refine till_pure (i:=1) (v:=.pointer (some ⟨gy,2,none⟩)) rfl rfl (by kernel_rfl) (fun _ _ _ h=>h) (yields_of rfl (fun w' _=>by simp [go_sem])) (fun _=>HT.out) ?_
   try simp only [Za,Zb,Zc]
   refine till_load (i:=2) (v:=Zl (some ⟨b,off,none⟩) m c) rfl rfl (by kernel_rfl) (fun _ _ _ h=>h) (yields_of rfl (fun w' hw'=>by have hcx:w'.cell? ⟨gy,2,none⟩=some (Zl (some ⟨b,off,none⟩) m c):=hw'.1;simp [go_sem,hcx])) (fun _=>HT.out) ?_
   try simp only [Za,Zb,Zc]
   refine till_pure (i:=3) (v:=.pointer (some ⟨gs,7,none⟩)) rfl rfl (by kernel_rfl) (fun _ _ _ h=>h) (yields_of rfl (fun w' _=>by simp [go_sem])) (fun _=>HT.out) ?_
   try simp only [Za,Zb,Zc]
   refine till_load (i:=4) (v:=Zl (some ⟨gf,0,none⟩) fn fc) rfl rfl (by kernel_rfl) (fun _ _ _ h=>h) (yields_of rfl (fun w' hw'=>by have hcx:w'.cell? ⟨gs,7,none⟩=some (Zl (some ⟨gf,0,none⟩) fn fc):=hw'.2.1;simp [go_sem,hcx])) (fun _=>HT.out) ?_
   try simp only [Za,Zb,Zc]
   refine till_pure (i:=5) (v:=Z O (q:Int)) rfl rfl (by kernel_rfl) (fun _ _ _ h=>h) (yields_of rfl (fun w' _=>by simp [go_sem])) (fun _=>HT.out) ?_
   try simp only [Za,Zb,Zc]
   refine till_pure (i:=6) (v:=.pointer (some ⟨gf,q,none⟩)) rfl rfl (by kernel_rfl) (fun _ _ _ h=>h) (yields_of rfl (fun w' _=>by simp [go_sem,Try.underlying47,hq0,hqt,hqI,hfcap])) (fun _=>HT.out) ?_
   try simp only [Za,Zb,Zc]
   refine till_load (i:=7) (v:=Z O jn) rfl rfl (by kernel_rfl) (fun _ _ _ h=>h) (yields_of rfl (fun w' hw'=>by have hcx:w'.cell? ⟨gf,q,none⟩=some (Z O jn):=hw'.2.2.1;simp [go_sem,hcx])) (fun _=>HT.out) ?_
   try simp only [Za,Zb,Zc]
   refine till_pure (i:=8) (v:=.pointer (some ⟨b,off+jn*8,none⟩)) rfl rfl (by kernel_rfl) (fun _ _ _ h=>h) (yields_of rfl (fun w' _=>by simp [go_sem,Try.underlying22,hj0,hj1,hjI,hnc])) (fun _=>HT.out) ?_
   try simp only [Za,Zb,Zc]
   refine till_pure (i:=9) (v:=.pointer (some ⟨b,off+jn*8+2,none⟩)) rfl rfl (by kernel_rfl) (fun _ _ _ h=>h) (yields_of rfl (fun w' _=>by simp [go_sem])) (fun _=>HT.out) ?_
   try simp only [Za,Zb,Zc]
   refine till_load (i:=10) (v:=Zs nm) rfl rfl (by kernel_rfl) (fun _ _ _ h=>h) (yields_of rfl (fun w' hw'=>by have hcx:w'.cell? ⟨b,off+jn*8+2,none⟩=some (Zs nm):=hw'.2.2.2;simp [go_sem,hcx])) (fun _=>HT.out) ?_
   try simp only [Za,Zb,Zc]
   refine till_only (j:=11) (by kernel_rfl) rfl ?_
   go_wp2_with fail
   have HRa:=Zh (p:=Rowed w1 (v2.alloc (.cells #[Zs nm] 9)) ([(gs,49,[Zs s,Z O dl,Z O dh,Z O wl,Z O wh,Z O pil,Z O boi,Zl (some ⟨gf,0,none⟩) fn fc]),(v2.heap.size,9,[Zs nm])]:List (Nat × TypeId × List Value)) 9 1 (Zl sa sn sc) (q) (strCells (codesOf ds (src.take q)))) (HRd.out.alloc 9 [Zs nm] rfl)
   have HL6:=Zh (p:=Locs w1 (v2.alloc (.cells #[Zs nm] 9)) [(gs,49,[Zs s,Z O dl,Z O dh,Z O wl,Z O wh,Z O pil,Z O boi,Zl (some ⟨gf,0,none⟩) fn fc]),(v2.heap.size,9,[Zs nm])] []) (HL5.out.alloc 9 [Zs nm] rfl)
   have HT:=Zh (p:=(fun w'=>w'.cell? ⟨gy,2,none⟩=some (Zl (some ⟨b,off,none⟩) m c)∧w'.cell? ⟨gs,7,none⟩=some (Zl (some ⟨gf,0,none⟩) fn fc)∧w'.cell? ⟨gf,q,none⟩=some (Z O jn)∧w'.cell? ⟨b,off+jn*8+2,none⟩=some (Zs nm)) (v2.alloc (.cells #[Zs nm] 9))) (⟨(HYO.out _ HL6.out.low).at 2 _ rfl,HL6.out.at 0 7 (v:=Zl (some ⟨gf,0,none⟩) fn fc) rfl rfl,HF0.out _ HL6.out.low,HF1.out _ HL6.out.low⟩)
   refine⟨(fun _=>HT.out),?_⟩
   try simp only [Za,Zb,Zc]
   refine till_only (j:=12) (by kernel_rfl) rfl ?_
   refine wpList_append_lies _ rfl (.tmp 29) (.tmp 40) 65 rfl w1.heap.size 9 i1_ (Zs ⟨#[]⟩) 1 16 Try.underlying65 HI1.out HI1a.out HI1b.out HI1c.out rfl (by decide) (Zl sa sn sc) q (strCells (codesOf ds (src.take q))) rfl HRa.out.own ⟨v2.heap.size,0,none⟩ 1 1 [Zs nm] rfl rfl (World.news_of_block (heap_alloc_new v2 _)) (by simp [Value.oneCell']) (by decide) HA1.out.1 HA1.out.2 HL6.out.low.size (v2.heap.size+1) (World.size_alloc _ _) ?_
   intro g cap w7 hown7 hg7 hat7 hlt7
   have HL7:=Zh (HL6.out.appended HRa.out hg7)
   have HR7:=Zh (Rowed.appended HL6.out HRa.out hown7 (by rw [World.size_alloc];exact hat7))
   clear hown7 hg7 hat7 hlt7
   change Till _ _ _ _∧wpAnyT _ _ _ _ _ _ _ _ _ _
   try simp only [Act.put,Za,Zb,Zc]
   have HT:=MK1 w7 ⟨(HYO.out _ HL7.out.low).at 2 _ rfl,HL7.out.at 0 7 (v:=Zl (some ⟨gf,0,none⟩) fn fc) rfl rfl,HF0.out _ HL7.out.low,HF1.out _ HL7.out.low⟩
   refine⟨(fun _=>HT.out),?_⟩
   try simp only [Za,Zb,Zc]
   refine till_pure (i:=13) (v:=Zl (some ⟨g,0,none⟩) (q+1) cap) rfl rfl (by kernel_rfl) (fun _ _ _ h=>h) (yields_of rfl (fun w' _=>by simp [go_sem])) (fun _=>HT.out) ?_
   try simp only [Za,Zb,Zc]
   refine till_done (by kernel_rfl) ?_
   try simp only [Act.put]
   go_wp2
   go_roundw
   case rel =>
    refine⟨q+1,by omega,by go_num,Zh ?_,Zh (HL7.out.fewer (List.sublist_append_left ([(gs,49,[Zs s,Z O dl,Z O dh,Z O wl,Z O wh,Z O pil,Z O boi,Zl (some ⟨gf,0,none⟩) fn fc])]:List (Nat × TypeId × List Value)) ([(v2.heap.size,9,[Zs nm])]:List (Nat × TypeId × List Value))) (List.Sublist.refl _))⟩
    rw [HST.out,show strCells (codesOf ds (src.take q)++[nm])=strCells (codesOf ds (src.take q))++[Zs nm]from by simp [strCells]]
    exact HR7.out.fewer (List.sublist_append_left ([(gs,49,[Zs s,Z O dl,Z O dh,Z O wl,Z O wh,Z O pil,Z O boi,Zl (some ⟨gf,0,none⟩) fn fc])]:List (Nat × TypeId × List Value)) ([(v2.heap.size,9,[Zs nm])]:List (Nat × TypeId × List Value)))
   case measure=>simp [intOf];omega
  ·skip
   have s0:=HL4.out.at 0 7 (v:=Zl fa fn fc) rfl rfl
   have hqe:fn=q:=by omega
   subst hqe
   go_wp2
   go_ret2
   refine⟨_,rfl,HB1.out.trans (HL4.out.low.mono HB1.out.size),?_⟩
   have h1:=row_zero HR.out.own
   rw [HFN.out,List.take_length]at h1
   have h2:(codesOf ds src).length=src.length:=by simp [codesOf]
   rw [HTS.out,h2]
   exact h1
def hErr (R:St Code × Int × Int × Int)(ds:List (Deed Code))(n pile:Int):Int :=
 if R.2.2.2≠0 then R.2.2.2 else if inB pile 0 (n-1)=false∨ds[pile.toNat]!.kind≠1 then 6 else if R.2.2.1≠0 then 9 else 0
def hRes (R:St Code × Int × Int × Int)(ds:List (Deed Code))(n pile:Int):List Code :=
 if hErr R ds n pile=0 then(R.1.stacks.filter fun x=>decide (pile ∈ x.src)).map fun x=>x.code else []
theorem holders_rows (p:Int)(rows:List SRow):holdersOf p rows=((rows.map (·.1)).filter fun x=>decide (p ∈ x.src)).map fun x=>x.code:=by
 unfold holdersOf
 rw [List.filter_map,List.map_map]
 rfl
theorem holders_any (bef aft:Int)(v:Value)(ds:List (Deed Code))(n pile:Int)(w:World)(h:Held w.heap.size w 8 deedCells v ds)(hsz:∀ d ∈ ds,d.stack.size≤maxLen∧d.other.size≤maxLen)(hg:greatB ds=false) :
  Calls Try.prog 24 #[.agg #[Z O bef,Z O aft,v],Z O n,Z O pile] w (CodesAny w (hRes (followAny bef aft ds n) ds n pile) (hErr (followAny bef aft ds n) ds n pile)):=by
 have HF:=Zh (fun(W:World) (hW:Below w.heap.size w W)=>checkFirst_any bef aft v ds n W ((h.below hW).mono hW.size) (sizes_max hsz))
 have HS:=Zh (fun(W:World) (hW:Below w.heap.size w W)=>stacksAfter_any bef aft v ds n W ((h.below hW).mono hW.size) hsz hg)
 obtain⟨R,hR⟩:∃ R,R=followAny bef aft ds n:=⟨_,rfl⟩
 rw [← hR]at HS ⊢
 have hfe:R.2.2.2=errFirst bef aft ds n:=by rw [hR];exact followAny_err _ _ _ _
 by_cases h0:errFirst bef aft ds n=0
 rotate_left
 ·skip
  have HE:=Zh (p:=hErr R ds n pile=errFirst bef aft ds n) (by unfold hErr;rw [if_pos (by rw [hfe];exact h0),hfe])
  have HR:=Zh (p:=∀ W,Below w.heap.size w W→CodesAny w (hRes R ds n pile) (hErr R ds n pile) (.returned (.tuple #[Zl none 0 0,Z O (errFirst bef aft ds n)])) W) (fun W hW=>⟨_,by rw [HE.out],hW,by unfold hRes;rw [if_neg (by rw [HE.out];exact h0)];exact codes_none W⟩)
  clear HE
  generalize CodesAny w (hRes R ds n pile) (hErr R ds n pile)=Q at HR ⊢
  obtain⟨a,c,rfl,_,_⟩:=h.slice
  obtain⟨m,hm⟩:∃ m,m=ds.length:=⟨_,rfl⟩
  rw [← hm]at HF ⊢
  generalize errFirst bef aft ds n=fe at HF HR h0
  have d1:(fe == 0)=false:=by simpa using h0
  have d2:(fe != 0)=true:=by simpa using h0
  clear h hsz hg hm hR hfe h0 HS
  have HL0:=Zh (p:=Locs w (w.alloc (.cells #[Z O bef,Z O aft,Zl a m c] 24)) [(w.heap.size,24,[Z O bef,Z O aft,Zl a m c])] []) ((Locs.start w).alloc 24 [Z O bef,Z O aft,Zl a m c] rfl)
  go_enter Try.func24,Try.ntmps24
  go_wp2_with (go_at_call 40;refine(HF.out _ HL0.out.low).mono ?_;rintro e w1 ⟨rfl,hb⟩;have HL1:=Zh (HL0.out.below hb);clear hb)
  exact HR.out _ HL1.out.low
 obtain⟨h5,h6,h7⟩:=nat_few hg h0
 have hf0:R.2.2.2=0:=by rw [hfe];exact h0
 have h1:R=((Yd.follow bef aft ds n.toNat).1,((Yd.follow bef aft ds n.toNat).2.1:Int),(Yd.follow bef aft ds n.toNat).2.2,0):=by rw [hR];unfold followAny;rw [if_pos h0]
 rw [h0]at HF
 have HN:=Zh (show 0≤n∧n≤12 by omega)
 by_cases hin':inB pile 0 (n-1)=false
 ·skip
  have HE:=Zh (p:=hErr R ds n pile=6) (by unfold hErr;rw [if_neg (by rw [hf0];simp),if_pos (.inl hin')])
  have HR:=Zh (p:=∀ W,Below w.heap.size w W→CodesAny w (hRes R ds n pile) (hErr R ds n pile) (.returned (.tuple #[Zl none 0 0,Z O (6)])) W) (fun W hW=>⟨_,by rw [HE.out],hW,by unfold hRes;rw [if_neg (by rw [HE.out];simp)];exact codes_none W⟩)
  clear HE
  generalize CodesAny w (hRes R ds n pile) (hErr R ds n pile)=Q at HR ⊢
  have hin:=hin'
  obtain⟨a,c,rfl,_,_⟩:=h.slice
  obtain⟨m,hm⟩:∃ m,m=ds.length:=⟨_,rfl⟩
  rw [← hm]at HF ⊢
  have hw1:IntKind.i64.wrap (n-1)=n-1:=by rw [IntKind.wrap_i64];have:=HN.out;omega
  clear h hsz hg hm hR hfe h0 HS h1 hf0 h5 h6 h7 hin'
  have HL0:=Zh (p:=Locs w (w.alloc (.cells #[Z O bef,Z O aft,Zl a m c] 24)) [(w.heap.size,24,[Z O bef,Z O aft,Zl a m c])] []) ((Locs.start w).alloc 24 [Z O bef,Z O aft,Zl a m c] rfl)
  go_enter Try.func24,Try.ntmps24
  go_wp2_with (first
   | (go_at_call 40;refine(HF.out _ HL0.out.low).mono ?_;rintro e w1 ⟨rfl,hb⟩;have HL1:=Zh (HL0.out.below hb);clear hb)
   | (go_at_call 47;refine(within_calls _ _ _ _).mono ?_;rintro e w2 ⟨rfl,rfl⟩;rw [hin]))
  exact HR.out _ HL1.out.low
 have hin:inB pile 0 (n-1)=true:=by simpa using hin'
 obtain⟨hp0,hp1⟩:=inB_of hin
 obtain⟨p,hp⟩:∃ p:Nat,pile=(p:Int):=⟨pile.toNat,by omega⟩
 subst hp
 have hpl:p<ds.length:=by omega
 by_cases hk:ds[p]!.kind=1
 ·skip
  by_cases hf2:(Yd.follow bef aft ds n.toNat).2.2=0
  ·skip
   have HE:=Zh (p:=hErr R ds n (p:Int)=0) (by unfold hErr;rw [if_neg (by rw [hf0];simp),if_neg (by rw [hin,Int.toNat_natCast,hk];simp),if_neg (by rw [h1];simp [hf2])])
   have:=holders_yes bef aft v ds n.toNat p w h (errFirst_zero h0).1 hsz h6 h7 hpl (by omega) hk hf2
   rw [h5]at this
   refine this.mono fun e w' hd=>?_
   obtain⟨u,rows,acc,k,rfl,hb,hfo,_,ho⟩:=hd
   refine⟨u,by rw [HE.out],hb,?_⟩
   unfold hRes
   rw [if_pos HE.out,h1,hfo,show(stOf rows acc).stacks=rows.map (·.1)from rfl,← holders_rows]
   exact ho
  ·skip
   have HE:=Zh (p:=hErr R ds n (p:Int)=9) (by unfold hErr;rw [if_neg (by rw [hf0];simp),if_neg (by rw [hin,Int.toNat_natCast,hk];simp),if_pos (by rw [h1];simpa using hf2)])
   have HS9:=Zh (p:=stacksErr R=9) (by unfold stacksErr;rw [if_neg (by rw [hf0];simp),if_pos (by rw [h1];simpa using hf2)])
   have HR:=Zh (p:=∀ W,Below w.heap.size w W→CodesAny w (hRes R ds n (p:Int)) (hErr R ds n (p:Int)) (.returned (.tuple #[Zl none 0 0,Z O (9)])) W) (fun W hW=>⟨_,by rw [HE.out],hW,by unfold hRes;rw [if_neg (by rw [HE.out];simp)];exact codes_none W⟩)
   clear HE
   generalize CodesAny w (hRes R ds n (p:Int)) (hErr R ds n (p:Int))=Q at HR ⊢
   obtain⟨a,c,rfl,_,hcs⟩:=h.slice
   obtain⟨b,off,rfl,hbl,⟨hnc,_⟩,hcells⟩:=hcs (by omega)
   obtain⟨m,hm⟩:∃ m,m=ds.length:=⟨_,rfl⟩
   have HK:=Zh (p:=w.cell? ⟨b,off+p*8,none⟩=some (Z O 1)) (hcells p hpl 0 _ (by rw [← hk];rfl))
   rw [← hm]at HF HS hpl hnc ⊢
   have HBL:=Zh hbl
   have hpI:(p:Int)<(m:Int):=by omega
   have hw1:IntKind.i64.wrap (n-1)=n-1:=by rw [IntKind.wrap_i64];have:=HN.out;omega
   clear h hsz hg hm hR hfe h0 h1 hf0 h5 h6 h7 hin' hcells hcs hbl hp0 hp1
   have HL0:=Zh (p:=Locs w (w.alloc (.cells #[Z O bef,Z O aft,Zl (some ⟨b,off,none⟩) m c] 24)) [(w.heap.size,24,[Z O bef,Z O aft,Zl (some ⟨b,off,none⟩) m c])] []) ((Locs.start w).alloc 24 [Z O bef,Z O aft,Zl (some ⟨b,off,none⟩) m c] rfl)
   go_enter Try.func24,Try.ntmps24
   go_wp2_with (first
    | (go_at_call 40;refine(HF.out _ HL0.out.low).mono ?_;rintro e w1 ⟨rfl,hb⟩;have HL1:=Zh (HL0.out.below hb);have y0:=HL1.out.at 0 0 (v:=Z O bef) rfl rfl;have y1:=HL1.out.at 0 1 (v:=Z O aft) rfl rfl;have y2:=HL1.out.at 0 2 (v:=Zl (some ⟨b,off,none⟩) m c) rfl rfl;have yk:=(HL1.out.low.cell (p:=⟨b,off+p*8,none⟩) HBL.out).trans HK.out;clear hb)
    | (go_at_call 47;refine(within_calls _ _ _ _).mono ?_;rintro e w2 ⟨rfl,rfl⟩;rw [hin])
    | (go_at_call 48;refine(HS.out _ HL1.out.low).mono ?_;rintro e w3 ⟨rows,tv,he,hb3,hst,_⟩;rw [HS9.out]at he;subst he;obtain⟨t1a,t1n,t1c,rfl⟩:=row_slice hst.things;have HL3:=Zh (HL1.out.below hb3);clear hb3 hst))
   exact HR.out _ HL3.out.low
 ·skip
  have HE:=Zh (p:=hErr R ds n (p:Int)=6) (by unfold hErr;rw [if_neg (by rw [hf0];simp),if_pos (.inr (by rw [Int.toNat_natCast];exact hk))])
  have HR:=Zh (p:=∀ W,Below w.heap.size w W→CodesAny w (hRes R ds n (p:Int)) (hErr R ds n (p:Int)) (.returned (.tuple #[Zl none 0 0,Z O (6)])) W) (fun W hW=>⟨_,by rw [HE.out],hW,by unfold hRes;rw [if_neg (by rw [HE.out];simp)];exact codes_none W⟩)
  clear HE
  generalize CodesAny w (hRes R ds n (p:Int)) (hErr R ds n (p:Int))=Q at HR ⊢
  obtain⟨kind,hkd⟩:∃ kind,kind=ds[p]!.kind:=⟨_,rfl⟩
  rw [← hkd]at hk
  have hk2:(kind != 1)=true:=by simpa using hk
  obtain⟨a,c,rfl,_,hcs⟩:=h.slice
  obtain⟨b,off,rfl,hbl,⟨hnc,_⟩,hcells⟩:=hcs (by omega)
  obtain⟨m,hm⟩:∃ m,m=ds.length:=⟨_,rfl⟩
  have HK:=Zh (p:=w.cell? ⟨b,off+p*8,none⟩=some (Z O kind)) (hcells p hpl 0 _ (by rw [hkd];rfl))
  rw [← hm]at HF HS hpl hnc ⊢
  have HBL:=Zh hbl
  have hpI:(p:Int)<(m:Int):=by omega
  have hw1:IntKind.i64.wrap (n-1)=n-1:=by rw [IntKind.wrap_i64];have:=HN.out;omega
  clear h hsz hg hm hR hfe h0 h1 hf0 h5 h6 h7 hin' hcells hcs hbl hp0 hp1 hkd hk
  have HL0:=Zh (p:=Locs w (w.alloc (.cells #[Z O bef,Z O aft,Zl (some ⟨b,off,none⟩) m c] 24)) [(w.heap.size,24,[Z O bef,Z O aft,Zl (some ⟨b,off,none⟩) m c])] []) ((Locs.start w).alloc 24 [Z O bef,Z O aft,Zl (some ⟨b,off,none⟩) m c] rfl)
  go_enter Try.func24,Try.ntmps24
  go_wp2_with (first
   | (go_at_call 40;refine(HF.out _ HL0.out.low).mono ?_;rintro e w1 ⟨rfl,hb⟩;have HL1:=Zh (HL0.out.below hb);have y0:=HL1.out.at 0 0 (v:=Z O bef) rfl rfl;have y1:=HL1.out.at 0 1 (v:=Z O aft) rfl rfl;have y2:=HL1.out.at 0 2 (v:=Zl (some ⟨b,off,none⟩) m c) rfl rfl;have yk:=(HL1.out.low.cell (p:=⟨b,off+p*8,none⟩) HBL.out).trans HK.out;clear hb)
   | (go_at_call 47;refine(within_calls _ _ _ _).mono ?_;rintro e w2 ⟨rfl,rfl⟩;rw [hin]))
  exact HR.out _ HL1.out.low
theorem rholders_any (bef aft:Int)(v:Value)(ds:List (Deed Code))(n pile:Int)(w:World)(h:Held w.heap.size w 8 deedCells v ds)(hsz:∀ d ∈ ds,d.stack.size≤maxLen∧d.other.size≤maxLen)(hg:greatB ds=false) :
  Calls Try.prog 36 #[.agg #[Z O bef,Z O aft,v],Z O n,Z O pile] w (CodesAny w (hRes (followAny bef aft ds n) ds n pile) (hErr (followAny bef aft ds n) ds n pile)):=by
 have HC:=Zh (fun(W:World) (hW:Below w.heap.size w W)=>rfollow_any bef aft v ds n W ((h.below hW).mono hW.size) hsz hg)
 have HNB:=Zh (show(followAny bef aft ds n).2.2.2=0→0≤n∧n≤12∧n≤ds.length from fun h0=>by
  rw [followAny_err]at h0
  obtain⟨h1,h2,h3⟩:=nat_few hg h0
  omega)
 obtain⟨a,c,rfl,_,hcs⟩:=h.slice
 have HCS:=Zh hcs
 obtain⟨m,hm⟩:∃ m,m=ds.length:=⟨_,rfl⟩
 have HM:=Zh hm
 rw [← hm]at HC ⊢
 obtain⟨R,hR⟩:∃ R,R=followAny bef aft ds n:=⟨_,rfl⟩
 rw [← hR]at HC HNB ⊢
 clear h hsz hg hm hR hcs
 have HL0:=Zh (p:=Locs w (w.alloc (.cells #[Z O bef,Z O aft,Zl a m c] 24)) [(w.heap.size,24,[Z O bef,Z O aft,Zl a m c])] []) ((Locs.start w).alloc 24 [Z O bef,Z O aft,Zl a m c] rfl)
 go_enter Try.func36,Try.ntmps36
 go_upto_region 2 with(first
  | (go_at_call 28;refine(HC.out _ HL0.out.low).mono ?_;rintro e w1 ⟨rows,tv1,acc1,k,f,er,hr,hsm,rfl,hb,hst⟩;obtain⟨t1a,t1n,t1c,rfl⟩:=row_slice hst.things;have HR:=Zh hr;have HSM:=Zh hsm;have HST:=Zh hst;clear hr hsm;obtain⟨⟨aA,aB⟩,⟨aC,aD⟩,⟨aE,aF⟩,⟨aG,aH⟩,⟨aI,aJ⟩,⟨aK,aL⟩⟩:=acc1;have HL1:=Zh (HL0.out.below hb);have HO:=Zh (p:=(#[Zl t1a t1n t1c,Z O aA,Z O aB,Z O aC,Z O aD,Z O aE,Z O aF,Z O aG,Z O aH,Z O aI,Z O aJ,Z O aK,Z O aL]:Array Value).all (·.oneCell')=true) (by simp [Value.oneCell']);clear hb hst)
  | ((with_reducible refine at_store 36 (.tmp 8) (.tmp 19) ?_);go_must (refine Zw rfl 36 (.tmp 8) (.tmp 19) rfl w1.heap.size 0 #[Zl t1a t1n t1c,Z O aA,Z O aB,Z O aC,Z O aD,Z O aE,Z O aF,Z O aG,Z O aH,Z O aI,Z O aJ,Z O aK,Z O aL] rfl rfl ((Blk.new w1 36 #[Zl none 0 0,Z O 0,Z O 0,Z O 0,Z O 0,Z O 0,Z O 0,Z O 0,Z O 0,Z O 0,Z O 0,Z O 0,Z O 0]).there (o:=0) (n:=13) (Zn rfl)) size_standing (HO.out) ?_)))
 clear HL0 HC
 have hr:=HR.out
 clear HR
 subst hr
 have HTN:=Zh (p:=t1n=rows.length) (row_len HST.out.things)
 have htn8:t1n≤8:=by rw [HTN.out];exact HST.out.few
 generalize w.heap.size=gy at HL1 ⊢
 have HYO:=Zh (fun W (hb:Below w1.heap.size w1 W)=>(HL1.out.blk 0 rfl).below hb)
 have HB1:=Zh HL1.out.low
 have HL2:=Zh (Locs.start w1)
 clear HL1
 have HL3:=Zh (p:=Locs w1 ((w1.alloc (.cells #[Zl none 0 0,Z O 0,Z O 0,Z O 0,Z O 0,Z O 0,Z O 0,Z O 0,Z O 0,Z O 0,Z O 0,Z O 0,Z O 0] 36)).setCells w1.heap.size 0 [Zl t1a t1n t1c,Z O aA,Z O aB,Z O aC,Z O aD,Z O aE,Z O aF,Z O aG,Z O aH,Z O aI,Z O aJ,Z O aK,Z O aL]) [(w1.heap.size,36,[Zl t1a t1n t1c,Z O aA,Z O aB,Z O aC,Z O aD,Z O aE,Z O aF,Z O aG,Z O aH,Z O aI,Z O aJ,Z O aK,Z O aL])] []) ((HL2.out.alloc 36 [Zl none 0 0,Z O 0,Z O 0,Z O 0,Z O 0,Z O 0,Z O 0,Z O 0,Z O 0,Z O 0,Z O 0,Z O 0,Z O 0] rfl).setLoc 0 [] [Zl none 0 0,Z O 0,Z O 0,Z O 0,Z O 0,Z O 0,Z O 0,Z O 0,Z O 0,Z O 0,Z O 0,Z O 0,Z O 0] [] [Zl t1a t1n t1c,Z O aA,Z O aB,Z O aC,Z O aD,Z O aE,Z O aF,Z O aG,Z O aH,Z O aI,Z O aJ,Z O aK,Z O aL] rfl rfl)
 clear HL2
 generalize((w1.alloc (.cells #[Zl none 0 0,Z O 0,Z O 0,Z O 0,Z O 0,Z O 0,Z O 0,Z O 0,Z O 0,Z O 0,Z O 0,Z O 0,Z O 0] 36)).setCells w1.heap.size 0 [Zl t1a t1n t1c,Z O aA,Z O aB,Z O aC,Z O aD,Z O aE,Z O aF,Z O aG,Z O aH,Z O aI,Z O aJ,Z O aK,Z O aL])=v1 at HL3 ⊢
 generalize w1.heap.size=gs at HL3 ⊢
 try simp only [Act.put]
 by_cases h1:er=0
 rotate_left
 ·skip
  have d1:(er == 0)=false:=by simpa using h1
  have d2:(er != 0)=true:=by simpa using h1
  have HE:=Zh (p:=hErr (stOf rows (⟨⟨aA,aB⟩,⟨aC,aD⟩,⟨aE,aF⟩,⟨aG,aH⟩,⟨aI,aJ⟩,⟨aK,aL⟩⟩:Yd.Acc),k,f,er) ds n pile=er) (by unfold hErr;rw [if_pos h1])
  have HNZ:=Zh (p:=hErr (stOf rows (⟨⟨aA,aB⟩,⟨aC,aD⟩,⟨aE,aF⟩,⟨aG,aH⟩,⟨aI,aJ⟩,⟨aK,aL⟩⟩:Yd.Acc),k,f,er) ds n pile≠0) (by rw [HE.out];exact h1)
  clear h1
  go_wp2
  go_ret2
  exact⟨_,by rw [HE.out];rfl,HB1.out.trans (HL3.out.low.mono HB1.out.size),by unfold hRes;rw [if_neg HNZ.out];exact codes_none _⟩
 subst h1
 obtain⟨hn0,hn12,hnl⟩:=HNB.out rfl
 have hw1:IntKind.i64.wrap (n-1)=n-1:=by rw [IntKind.wrap_i64];omega
 clear HNB
 by_cases hin':inB pile 0 (n-1)=false
 ·skip
  have HE:=Zh (p:=hErr (stOf rows (⟨⟨aA,aB⟩,⟨aC,aD⟩,⟨aE,aF⟩,⟨aG,aH⟩,⟨aI,aJ⟩,⟨aK,aL⟩⟩:Yd.Acc),k,f,0) ds n pile=6) (by unfold hErr;rw [if_neg (by simp),if_pos (.inl hin')])
  have HNZ:=Zh (p:=hErr (stOf rows (⟨⟨aA,aB⟩,⟨aC,aD⟩,⟨aE,aF⟩,⟨aG,aH⟩,⟨aI,aJ⟩,⟨aK,aL⟩⟩:Yd.Acc),k,f,0) ds n pile≠0) (by rw [HE.out];simp)
  have hin:=hin'
  clear hin'
  go_wp2_with (go_at_call 37;refine(in_calls _ _ _ _).mono ?_;rintro e w2 ⟨rfl,rfl⟩;rw [hin])
  go_ret2
  exact⟨_,by rw [HE.out];rfl,HB1.out.trans (HL3.out.low.mono HB1.out.size),by unfold hRes;rw [if_neg HNZ.out];exact codes_none _⟩
 have hin:inB pile 0 (n-1)=true:=by simpa using hin'
 obtain⟨hp0,hp1⟩:=inB_of hin
 obtain⟨p,hp⟩:∃ p:Nat,pile=(p:Int):=⟨pile.toNat,by omega⟩
 subst hp
 have hpl:p<ds.length:=by omega
 obtain⟨b,off,rfl,hbl,⟨hnc,hcm⟩,hcells⟩:=HCS.out (by omega)
 obtain⟨kind,hkd⟩:∃ kind,kind=ds[p]!.kind:=⟨_,rfl⟩
 have yk:=(show v1.cell? ⟨b,off+p*8,none⟩=some (Z O kind)from((HB1.out.trans (HL3.out.low.mono HB1.out.size)).cell (p:=⟨b,off+p*8,none⟩) hbl).trans (hcells p hpl 0 _ (by rw [hkd];rfl)))
 have y2:=(HYO.out v1 HL3.out.low).at 2 (Zl (some ⟨b,off,none⟩) m c) rfl
 have hpm:p<m:=by rw [HM.out];exact hpl
 rw [← HM.out]at hnc
 have hpI:(p:Int)<(m:Int):=by omega
 have HPK:=Zh (p:=ds[((p:Nat):Int).toNat]!.kind=kind) (by rw [Int.toNat_natCast];exact hkd.symm)
 clear hcells hbl hkd hin'
 by_cases hk:kind=1
 rotate_left
 ·skip
  have hk2:(kind != 1)=true:=by simpa using hk
  have HE:=Zh (p:=hErr (stOf rows (⟨⟨aA,aB⟩,⟨aC,aD⟩,⟨aE,aF⟩,⟨aG,aH⟩,⟨aI,aJ⟩,⟨aK,aL⟩⟩:Yd.Acc),k,f,0) ds n (p:Int)=6) (by unfold hErr;rw [if_neg (by simp),if_pos (.inr (by rw [HPK.out];exact hk))])
  have HNZ:=Zh (p:=hErr (stOf rows (⟨⟨aA,aB⟩,⟨aC,aD⟩,⟨aE,aF⟩,⟨aG,aH⟩,⟨aI,aJ⟩,⟨aK,aL⟩⟩:Yd.Acc),k,f,0) ds n (p:Int)≠0) (by rw [HE.out];simp)
  clear hk
  go_wp2_with (go_at_call 37;refine(in_calls _ _ _ _).mono ?_;rintro e w2 ⟨rfl,rfl⟩;rw [hin])
  go_ret2
  exact⟨_,by rw [HE.out];rfl,HB1.out.trans (HL3.out.low.mono HB1.out.size),by unfold hRes;rw [if_neg HNZ.out];exact codes_none _⟩
 subst hk
 by_cases h2:f=0
 rotate_left
 ·skip
  have d1:(f == 0)=false:=by simpa using h2
  have d2:(f != 0)=true:=by simpa using h2
  have HE:=Zh (p:=hErr (stOf rows (⟨⟨aA,aB⟩,⟨aC,aD⟩,⟨aE,aF⟩,⟨aG,aH⟩,⟨aI,aJ⟩,⟨aK,aL⟩⟩:Yd.Acc),k,f,0) ds n (p:Int)=9) (by unfold hErr;rw [if_neg (by simp),if_neg (by rw [hin,HPK.out];simp),if_pos h2])
  have HNZ:=Zh (p:=hErr (stOf rows (⟨⟨aA,aB⟩,⟨aC,aD⟩,⟨aE,aF⟩,⟨aG,aH⟩,⟨aI,aJ⟩,⟨aK,aL⟩⟩:Yd.Acc),k,f,0) ds n (p:Int)≠0) (by rw [HE.out];simp)
  clear h2
  go_wp2_with (go_at_call 37;refine(in_calls _ _ _ _).mono ?_;rintro e w2 ⟨rfl,rfl⟩;rw [hin])
  go_ret2
  exact⟨_,by rw [HE.out];rfl,HB1.out.trans (HL3.out.low.mono HB1.out.size),by unfold hRes;rw [if_neg HNZ.out];exact codes_none _⟩
 subst h2
 have HE:=Zh (p:=hErr (stOf rows (⟨⟨aA,aB⟩,⟨aC,aD⟩,⟨aE,aF⟩,⟨aG,aH⟩,⟨aI,aJ⟩,⟨aK,aL⟩⟩:Yd.Acc),k,0,0) ds n (p:Int)=0) (by unfold hErr;rw [if_neg (by simp),if_neg (by rw [hin,HPK.out];simp),if_neg (by simp)])
 have HRES:=Zh (p:=hRes (stOf rows (⟨⟨aA,aB⟩,⟨aC,aD⟩,⟨aE,aF⟩,⟨aG,aH⟩,⟨aI,aJ⟩,⟨aK,aL⟩⟩:Yd.Acc),k,0,0) ds n (p:Int)=holdersOf (p:Int) rows) (by unfold hRes;rw [if_pos HE.out,holders_rows];rfl)
 have s0:=HL3.out.at 0 0 (v:=Zl t1a t1n t1c) rfl rfl
 go_wp2_with (go_at_call 37;refine(in_calls _ _ _ _).mono ?_;rintro e w2 ⟨rfl,rfl⟩;rw [hin])
 clear s0 y2 yk hpI hpm hnc hcm hin hw1 hn0 hn12 hnl hp0 hp1 HPK HYO
 have HR0:=Zh (Rowed.nil w1 v1 ([(gs,36,[Zl t1a t1n t1c,Z O aA,Z O aB,Z O aC,Z O aD,Z O aE,Z O aF,Z O aG,Z O aH,Z O aI,Z O aJ,Z O aK,Z O aL])]:List (Nat × TypeId × List Value)) 9 1)
 go_loopw [12,13] (fun cv iv wr => ∃(q:Nat),q≤t1n∧iv=Z O q∧Hid (Rowed w1 wr ([(gs,36,[Zl t1a t1n t1c,Z O aA,Z O aB,Z O aC,Z O aD,Z O aE,Z O aF,Z O aG,Z O aH,Z O aI,Z O aJ,Z O aK,Z O aL])]:List (Nat × TypeId × List Value)) 9 1 (cv) ((holdersOf (p:Int) (rows.take q)).length) (strCells (holdersOf (p:Int) (rows.take q))))∧Hid (Locs w1 wr [(gs,36,[Zl t1a t1n t1c,Z O aA,Z O aB,Z O aC,Z O aD,Z O aE,Z O aF,Z O aG,Z O aH,Z O aI,Z O aJ,Z O aK,Z O aL])] [])) (fun _ iv _=>t1n-(intOf iv).toNat)
 case atStart=>exact⟨0,Nat.zero_le _,rfl,HR0,HL3⟩
 case round =>
  clear HL3 HR0
  obtain⟨q,hq,rfl,HR,HL4⟩:=hrel
  obtain⟨sa,sn,sc,rfl⟩:=row_slice HR.out.own
  by_cases hqt:q<t1n
  ·skip
   have hqI:(q:Int)<(t1n:Int):=by omega
   have hqr:q<rows.length:=by rw [← HTN.out];exact hqt
   obtain⟨r,hr⟩:∃ r,rows[q]? = some r:=⟨_,List.getElem?_eq_getElem hqr⟩
   have hstep:=holders_step (p:=(p:Int)) hr
   have HSr:=Zh (HST.out.below HL4.out.low)
   obtain⟨gp,cp,hvp,hgp,hcp⟩:=HSr.out.row hr
   have hfr:=HSr.out.froms r (List.mem_of_getElem? hr)
   have hfl:=HSr.out.fromsLen r (List.mem_of_getElem? hr)
   obtain⟨q9,hq9,hs9⟩:=HSM.out
   have hasc:=(hs9.stacks r.1 (List.mem_map.2 ⟨r,List.mem_of_getElem? hr,rfl⟩)).asc
   obtain⟨fa,fn,fc,hfv⟩:=row_slice hfr
   have hle:=(holders_len (p:=(p:Int)) (rows:=rows.take q))
   obtain⟨⟨code1,⟨dl,dh⟩,⟨wl,wh⟩,pil,boi,src⟩,pv⟩:=r
   simp only at hfv hfr hfl hstep hasc
   subst hfv
   have hfn:fn=src.length:=row_len hfr
   have HFL:=Zh hfl;have HSTEP:=Zh hstep;have HASC:=Zh (both_one (p:=(p:Int)) hasc);have HFN:=Zh hfn
   injection hvp with e1 e2 e3
   subst e1 e3
   have c0:=(show wr.cell? ⟨gp,q*8,none⟩=some (Zs code1)from hcp 0 (by decide))
   have c7:=(show wr.cell? ⟨gp,q*8+7,none⟩=some (Zl fa fn fc)from hcp 7 (by decide))
   have HGP:=Zh hgp
   have HBO:=Zh (rboth_calls (Zl fa fn fc) (Zl (some ⟨wr.heap.size,0,none⟩) 1 1) src [(p:Int)] (wr.alloc (.cells #[Z O p] 3)) (row_same hfr (fun k hk=>Below.heap_alloc wr _ k (row_lt hfr hk))) ⟨rfl,.inr ⟨wr.heap.size,1,#[Z O p],rfl,Nat.zero_le _,Blk.new wr 3 #[Z O p],Nat.le_refl _,by unfold maxLen;omega,rfl,rfl⟩⟩ hfl (by simp))
   clear hcp hfr hfl hstep e2 hr hs9 hasc hfn hgp
   obtain⟨i1_,hi1,hi1a,hi1b,hi1c⟩:=info_parts info_string
   have HI1:=Zh hi1;have HI1a:=Zh hi1a;have HI1b:=Zh hi1b;have HI1c:=Zh hi1c
   obtain⟨mm,hmm⟩:∃ m,m=(holdersOf (p:Int) (rows.take q)).length:=⟨_,rfl⟩
   rw [← hmm]at HR hle
   rw [List.length_take]at hle
   have hm8:mm≤8:=by omega
   have HMM:=Zh hmm
   have HA1:=Zh (show mm+1≤maxLen∧(mm+1)*16≤140737488355328 by unfold maxLen;omega)
   clear hi1 hi1a hi1b hi1c hmm hle
   have s0:=HL4.out.at 0 0 (v:=Zl (some ⟨gp,0,none⟩) t1n t1c) rfl rfl
   by_cases hmem:(p:Int) ∈ src
   ·skip
    go_wp2_with (first
     | (go_at_call 56;refine HBO.out.mono ?_;rintro e w4 ⟨u,mu,rfl,hb,hmu,ho⟩;obtain⟨ua,un,uc,rfl⟩:=row_slice ho;have hun:=row_len ho;have hb4:=((Below.refl wr.heap.size wr).alloc (Nat.le_refl _) (.cells #[Z O p] 3)).trans (hb.mono (by rw [World.size_alloc];omega));have HL4:=Zh (HL4.out.below hb4);have HR4:=Zh (HR.out.below hb4);obtain rfl:un=fn:=(by rw [hun,hmu,HFN.out];exact HASC.out.2 hmem);have s1:=HL4.out.at 0 0 (v:=Zl (some ⟨gp,0,none⟩) t1n t1c) rfl rfl;have c1:=(hb4.cell (p:=⟨gp,q*8,none⟩) HGP.out).trans c0;have HRa:=Zh (p:=Rowed w1 (w4.alloc (.cells #[Zs code1] 9)) ([(gs,36,[Zl (some ⟨gp,0,none⟩) t1n t1c,Z O aA,Z O aB,Z O aC,Z O aD,Z O aE,Z O aF,Z O aG,Z O aH,Z O aI,Z O aJ,Z O aK,Z O aL]),(w4.heap.size,9,[Zs code1])]:List (Nat × TypeId × List Value)) 9 1 (Zl sa sn sc) (mm) (strCells (holdersOf (p:Int) (rows.take q)))) (HR4.out.alloc 9 [Zs code1] rfl);have HLa:=Zh (p:=Locs w1 (w4.alloc (.cells #[Zs code1] 9)) [(gs,36,[Zl (some ⟨gp,0,none⟩) t1n t1c,Z O aA,Z O aB,Z O aC,Z O aD,Z O aE,Z O aF,Z O aG,Z O aH,Z O aI,Z O aJ,Z O aK,Z O aL]),(w4.heap.size,9,[Zs code1])] []) (HL4.out.alloc 9 [Zs code1] rfl);clear hb ho hmu hun hb4)
     | (at_builtin;refine wpList_append_lies _ rfl (.tmp 68) (.tmp 75) 65 rfl w1.heap.size 9 i1_ (Zs ⟨#[]⟩) 1 16 Try.underlying65 HI1.out HI1a.out HI1b.out HI1c.out rfl (by decide) (Zl sa sn sc) mm (strCells (holdersOf (p:Int) (rows.take q))) rfl HRa.out.own ⟨w4.heap.size,0,none⟩ 1 1 [Zs code1] rfl rfl (World.news_of_block (heap_alloc_new w4 _)) (by simp [Value.oneCell']) (by decide) HA1.out.1 HA1.out.2 HLa.out.low.size (w4.heap.size+1) (World.size_alloc _ _) ?_;intro g cap w7 hown7 hg7 hat7 hlt7;have HL7:=Zh (HLa.out.appended HRa.out hg7);have HR7:=Zh (Rowed.appended HLa.out HRa.out hown7 (by rw [World.size_alloc];exact hat7));clear hown7 hg7 hat7 hlt7))
    go_roundw
    case rel =>
     have e:holdersOf (p:Int) (rows.take (q+1))=holdersOf (p:Int) (rows.take q)++[code1]:=by rw [HSTEP.out,if_pos hmem]
     refine⟨q+1,by omega,by go_num,Zh ?_,Zh (HL7.out.fewer (List.sublist_append_left ([(gs,36,[Zl (some ⟨gp,0,none⟩) t1n t1c,Z O aA,Z O aB,Z O aC,Z O aD,Z O aE,Z O aF,Z O aG,Z O aH,Z O aI,Z O aJ,Z O aK,Z O aL])]:List (Nat × TypeId × List Value)) ([(w4.heap.size,9,[Zs code1])]:List (Nat × TypeId × List Value))) (List.Sublist.refl _))⟩
     rw [e,List.length_append,← HMM.out,show strCells (holdersOf (p:Int) (rows.take q)++[code1])=strCells (holdersOf (p:Int) (rows.take q))++[Zs code1]from by simp [strCells]]
     exact HR7.out.fewer (List.sublist_append_left ([(gs,36,[Zl (some ⟨gp,0,none⟩) t1n t1c,Z O aA,Z O aB,Z O aC,Z O aD,Z O aE,Z O aF,Z O aG,Z O aH,Z O aI,Z O aJ,Z O aK,Z O aL])]:List (Nat × TypeId × List Value)) ([(w4.heap.size,9,[Zs code1])]:List (Nat × TypeId × List Value)))
    case measure=>simp [intOf];omega
   ·skip
    go_wp2_with (go_at_call 56;refine HBO.out.mono ?_;rintro e w4 ⟨u,mu,rfl,hb,hmu,ho⟩;obtain⟨ua,un,uc,rfl⟩:=row_slice ho;have hun:=row_len ho;have hb4:=((Below.refl wr.heap.size wr).alloc (Nat.le_refl _) (.cells #[Z O p] 3)).trans (hb.mono (by rw [World.size_alloc];omega));have HL4:=Zh (HL4.out.below hb4);have HR4:=Zh (HR.out.below hb4);have hu:¬ un=fn:=(fun h9=>hmem (HASC.out.1 (by rw [← hmu,← hun,h9,HFN.out])));have hu1:((un:Int) == (fn:Int))=false:=(by simp;omega);have hu2:(un == fn)=false:=(by simpa using hu);have hu3:decide (un=fn)=false:=(by simpa using hu);have s1:=HL4.out.at 0 0 (v:=Zl (some ⟨gp,0,none⟩) t1n t1c) rfl rfl;clear hb ho hmu hun hb4)
    go_roundw
    case rel =>
     have e:holdersOf (p:Int) (rows.take (q+1))=holdersOf (p:Int) (rows.take q):=by rw [HSTEP.out,if_neg hmem,List.append_nil]
     refine⟨q+1,by omega,by go_num,Zh ?_,HL4⟩
     rw [e,← HMM.out]
     exact HR4.out
    case measure=>simp [intOf];omega
  ·skip
   have s0:=HL4.out.at 0 0 (v:=Zl t1a t1n t1c) rfl rfl
   have hqe:t1n=q:=by omega
   subst hqe
   go_wp2
   go_ret2
   refine⟨_,by rw [HE.out];rfl,HB1.out.trans (HL4.out.low.mono HB1.out.size),?_⟩
   have h1:=row_zero HR.out.own
   rw [HTN.out,List.take_length]at h1
   rw [HRES.out]
   exact h1
theorem row_below {w w':World}{base:Nat}{e:TypeId}{k n:Nat}{v:Value}{xs:List Value}(h:w.ownsRow base e k v n xs)(hb:Below w.heap.size w w'):w'.ownsRow base e k v n xs:=row_same h (fun g hg=>hb.block g (row_lt h hg))
theorem origins_great (bef aft:Int)(v:Value)(ds:List (Deed Code))(n:Int)(code:Code)(pile:Int)(w:World)(h:Held w.heap.size w 8 deedCells v ds)(hg:greatB ds=true∨100<code.size) :
  Calls Try.prog 12 #[.agg #[Z O bef,Z O aft,v],Z O n,Zs code,Z O pile] w (LawDone w):=by
 have HGR:=Zh (fun(W:World) (hW:Below w.heap.size w W)=>great_calls bef aft v ds W ((h.below hW).mono hW.size))
 obtain⟨a,c,rfl,_,_⟩:=h.slice
 obtain⟨m,hm⟩:∃ m,m=ds.length:=⟨_,rfl⟩
 rw [← hm]at HGR ⊢
 have HL0:=Zh (p:=Locs w (w.alloc (.cells #[Z O bef,Z O aft,Zl a m c] 24)) [(w.heap.size,24,[Z O bef,Z O aft,Zl a m c])] []) ((Locs.start w).alloc 24 [Z O bef,Z O aft,Zl a m c] rfl)
 clear h hm
 cases hgb:greatB ds with
 | true =>
   have HG:=Zh hgb
   clear hgb hg
   go_enter Try.func12,Try.ntmps12
   go_wp2_with (first|(go_at_call 13;refine(HGR.out _ HL0.out.low).mono ?_;rintro e w1 ⟨rfl,hb1⟩;rw [HG.out];have HL1:=Zh (HL0.out.below hb1);clear hb1)|(go_at_call 15;refine(stands_calls _).mono ?_;rintro e w2 ⟨rfl,hb2⟩;have HL2:=Zh (HL1.out.below hb2);clear hb2))
   go_ret
   exact lawDone HL2.out.low
 | false =>
   have HG:=Zh hgb
   have hcs:100<code.size:=hg.resolve_left (by rw [hgb];simp)
   have d1:decide ((100:Int)<(code.size:Int))=true:=by simp;omega
   clear hgb hg hcs
   go_enter Try.func12,Try.ntmps12
   go_wp2_with (first|(go_at_call 13;refine(HGR.out _ HL0.out.low).mono ?_;rintro e w1 ⟨rfl,hb1⟩;rw [HG.out];have HL1:=Zh (HL0.out.below hb1);clear hb1)|(go_at_call 15;refine(stands_calls _).mono ?_;rintro e w2 ⟨rfl,hb2⟩;have HL2:=Zh (HL1.out.below hb2);clear hb2))
   go_ret
   exact lawDone HL2.out.low
theorem origins_small (bef aft:Int)(v:Value)(ds:List (Deed Code))(n:Int)(code:Code)(pile:Int)(w:World)(h:Held w.heap.size w 8 deedCells v ds)(hsz:∀ d ∈ ds,d.stack.size≤maxLen∧d.other.size≤maxLen)(hg:greatB ds=false)(hcs:¬ 100<code.size) :
  Calls Try.prog 12 #[.agg #[Z O bef,Z O aft,v],Z O n,Zs code,Z O pile] w (LawDone w):=by
 have HGR:=Zh (fun(W:World) (hW:Below w.heap.size w W)=>great_calls bef aft v ds W ((h.below hW).mono hW.size))
 obtain⟨sl,hsl⟩:∃ x,x=sRes ds (followAny bef aft ds n) code:=⟨_,rfl⟩
 obtain⟨se,hse⟩:∃ x,x=stackErr (followAny bef aft ds n) code false:=⟨_,rfl⟩
 obtain⟨ol,hol⟩:∃ x,x=hRes (followAny bef aft ds n) ds n pile:=⟨_,rfl⟩
 obtain⟨oe,hoe⟩:∃ x,x=hErr (followAny bef aft ds n) ds n pile:=⟨_,rfl⟩
 have HSP:=Zh (show ∀ W,Below w.heap.size w W→Calls Try.prog 26 #[.agg #[Z O bef,Z O aft,v],Z O n,Zs code] W (CodesAny W sl se)from fun W hW=>by
  have:=sources_any bef aft v ds n code W ((h.below hW).mono hW.size) hsz hg
  rw [← hsl,← hse]at this
  exact this)
 have HSR:=Zh (show ∀ W,Below w.heap.size w W→Calls Try.prog 34 #[.agg #[Z O bef,Z O aft,v],Z O n,Zs code] W (CodesAny W sl se)from fun W hW=>by
  have:=rsources_any bef aft v ds n code W ((h.below hW).mono hW.size) hsz hg
  rw [← hsl,← hse]at this
  exact this)
 have HHP:=Zh (show ∀ W,Below w.heap.size w W→Calls Try.prog 24 #[.agg #[Z O bef,Z O aft,v],Z O n,Z O pile] W (CodesAny W ol oe)from fun W hW=>by
  have:=holders_any bef aft v ds n pile W ((h.below hW).mono hW.size) hsz hg
  rw [← hol,← hoe]at this
  exact this)
 have HHR:=Zh (show ∀ W,Below w.heap.size w W→Calls Try.prog 36 #[.agg #[Z O bef,Z O aft,v],Z O n,Z O pile] W (CodesAny W ol oe)from fun W hW=>by
  have:=rholders_any bef aft v ds n pile W ((h.below hW).mono hW.size) hsz hg
  rw [← hol,← hoe]at this
  exact this)
 obtain⟨a,c,rfl,_,_⟩:=h.slice
 obtain⟨m,hm⟩:∃ m,m=ds.length:=⟨_,rfl⟩
 rw [← hm]at HGR HSP HSR HHP HHR ⊢
 have HG:=Zh hg
 have d1:decide ((100:Int)<(code.size:Int))=false:=by simp;omega
 clear h hsz hm hg hsl hse hol hoe hcs
 have HL0:=Zh (p:=Locs w (w.alloc (.cells #[Z O bef,Z O aft,Zl a m c] 24)) [(w.heap.size,24,[Z O bef,Z O aft,Zl a m c])] []) ((Locs.start w).alloc 24 [Z O bef,Z O aft,Zl a m c] rfl)
 go_enter Try.func12,Try.ntmps12
 go_upto_region 3 with(go_at_call 13;refine(HGR.out _ HL0.out.low).mono ?_;rintro e w1 ⟨rfl,hb1⟩;rw [HG.out];have HL1:=Zh (HL0.out.below hb1);clear hb1)
 clear HL0 HGR d1
 generalize w.heap.size=gy at HL1 ⊢
 have y0:=HL1.out.at 0 0 (v:=Z O bef) rfl rfl
 have y1:=HL1.out.at 0 1 (v:=Z O aft) rfl rfl
 have y2:=HL1.out.at 0 2 (v:=Zl a m c) rfl rfl
 go_upto_region 4 with(go_at_call 26;refine(HSP.out _ HL1.out.low).mono ?_;rintro e w2 ⟨s1,rfl,hb,ho⟩;have S1:=Zh ho;have HL2:=Zh (HL1.out.below hb);clear hb ho)
 clear y0 y1 y2 HL1 HSP
 have y0:=HL2.out.at 0 0 (v:=Z O bef) rfl rfl
 have y1:=HL2.out.at 0 1 (v:=Z O aft) rfl rfl
 have y2:=HL2.out.at 0 2 (v:=Zl a m c) rfl rfl
 go_upto_region 5 with(go_at_call 34;refine(HSR.out _ HL2.out.low).mono ?_;rintro e w3 ⟨s2,rfl,hb,ho⟩;have S2:=Zh ho;have S3:=Zh (row_below S1.out hb);have HL3:=Zh (HL2.out.below hb);clear hb ho)
 clear y0 y1 y2 HL2 HSR S1
 go_upto_region 7 with(go_at_call 35;refine(samecodes_calls S3.out S2.out).mono ?_;rintro e w4 ⟨rfl,hb⟩;have HL4:=Zh (HL3.out.below hb);clear hb)
 clear HL3 S2 S3
 have y0:=HL4.out.at 0 0 (v:=Z O bef) rfl rfl
 have y1:=HL4.out.at 0 1 (v:=Z O aft) rfl rfl
 have y2:=HL4.out.at 0 2 (v:=Zl a m c) rfl rfl
 go_upto_region 8 with(go_at_call 24;refine(HHP.out _ HL4.out.low).mono ?_;rintro e w5 ⟨o1,rfl,hb,ho⟩;have O1:=Zh ho;have HL5:=Zh (HL4.out.below hb);clear hb ho)
 clear y0 y1 y2 HL4 HHP
 have y0:=HL5.out.at 0 0 (v:=Z O bef) rfl rfl
 have y1:=HL5.out.at 0 1 (v:=Z O aft) rfl rfl
 have y2:=HL5.out.at 0 2 (v:=Zl a m c) rfl rfl
 go_upto_region 9 with(go_at_call 36;refine(HHR.out _ HL5.out.low).mono ?_;rintro e w6 ⟨o2,rfl,hb,ho⟩;have O2:=Zh ho;have O3:=Zh (row_below O1.out hb);have HL6:=Zh (HL5.out.below hb);clear hb ho)
 clear y0 y1 y2 HL5 HHR O1
 go_wp2_with (first
  | (go_at_call 35;refine(samecodes_calls O3.out O2.out).mono ?_;rintro e w7 ⟨rfl,hb⟩;have HL7:=Zh (HL6.out.below hb);clear hb)
  | (go_at_call 15;refine(stands_calls _).mono ?_;rintro e w8 ⟨rfl,hb⟩;have HL8:=Zh (HL7.out.below hb);clear hb))
 go_ret
 exact lawDone HL8.out.low
theorem origins_law (bef aft:Int)(v:Value)(ds:List (Deed Code))(hsz:∀ d ∈ ds,d.stack.size≤maxLen∧d.other.size≤maxLen)(n:Int)(code:Code)(pile:Int)(w:World)(h:Held w.heap.size w 8 deedCells v ds) :
  Calls Try.prog 12 #[.agg #[Z O bef,Z O aft,v],Z O n,Zs code,Z O pile] w (LawDone w):=by
 by_cases hg:greatB ds=true∨100<code.size
 ·exact origins_great bef aft v ds n code pile w h hg
 ·have h1:¬ greatB ds=true:=fun e=>hg (.inl e)
  exact origins_small bef aft v ds n code pile w h hsz (by simpa using h1) (fun e=>hg (.inr e))
end Go.Proofs.Ytgekekhbhkgekaa
