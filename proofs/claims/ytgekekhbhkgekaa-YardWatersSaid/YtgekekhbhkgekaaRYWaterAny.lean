/- Moist and Dry at any yard: the program's and the document's. -/
import Derived.Test.YtgekekhbhkgekaaRYStackAny
namespace Go.Proofs.Ytgekekhbhkgekaa
open Go Go.RowKit Go.Shelf Yd
open Go.Value renaming int→Z,string→Zs,slice→Zl
open Go.IntKind renaming i64→O
open Go.Lib renaming hid→Zh
open _root_.List renaming setIfInBounds_toArray→Za,set_cons_succ→Zb,set_cons_zero→Zc
open _root_.Nat renaming le_of_ble_eq_true→Zn
open Go renaming wpList_store_mid→Zw,cell_regrown→Zg,below_regrown→Zk
set_option maxRecDepth 100000
set_option maxHeartbeats 16000000
set_option linter.unusedSimpArgs false
def moistRes (R:St Code × Int × Int × Int)(code:Code):Int × Int × Int :=
 if stackErr R code false≠0 then(0,0,stackErr R code false)else if (theStack R code).dry.lo=0 then(0,0,8)else((theStack R code).water.lo*1000/(theStack R code).dry.hi,((theStack R code).water.hi*1000+(theStack R code).dry.lo-1)/(theStack R code).dry.lo,0)
def dryRes (R:St Code × Int × Int × Int)(code:Code)(most:Int):Int × Int :=
 if stackErr R code (!inB most 0 3000)≠0 then(0,stackErr R code (!inB most 0 3000))else if (theStack R code).water.hi*1000≤most*(theStack R code).dry.lo then(1,0)else if most*(theStack R code).dry.hi<(theStack R code).water.lo*1000 then(2,0)else(0,0)
theorem stk_fit {i:Nat}{x:Stk Code}(h:SmallStk i x)(hi:i≤12):(0≤x.dry.lo∧x.dry.lo≤x.dry.hi∧x.dry.hi≤2000000000000000)∧(0≤x.water.lo∧x.water.lo≤x.water.hi∧x.water.hi≤2000000000000000):=by
 have h1:=h.dry;have h2:=h.water;have h3:=cap_le hi
 unfold Bd.Up at h1 h2
 omega
def MoistAny (w:World)(x:Int × Int × Int)(e:Ending)(w':World):Prop:=e=.returned (.tuple #[.agg #[Z O x.1,Z O x.2.1],Z O x.2.2])∧Below w.heap.size w w'
def DryAny (w:World)(x:Int × Int)(e:Ending)(w':World):Prop:=e=.returned (.tuple #[Z O x.1,Z O x.2])∧Below w.heap.size w w'
theorem moist_any (bef aft:Int)(v:Value)(ds:List (Deed Code))(n:Int)(code:Code)(w:World)(h:Held w.heap.size w 8 deedCells v ds)(hsz:∀ d ∈ ds,d.stack.size≤maxLen∧d.other.size≤maxLen)(hg:greatB ds=false) :
  Calls Try.prog 30 #[.agg #[Z O bef,Z O aft,v],Z O n,Zs code] w (MoistAny w (moistRes (followAny bef aft ds n) code)):=by
 have HC:=Zh (fun(W:World) (hW:Below w.heap.size w W)=>stackAfter_any bef aft v ds n code W ((h.below hW).mono hW.size) hsz hg)
 obtain⟨a,c,rfl,_,_⟩:=h.slice
 obtain⟨m,hm⟩:∃ m,m=ds.length:=⟨_,rfl⟩
 rw [← hm]at HC ⊢
 obtain⟨R,hR⟩:∃ R,R=followAny bef aft ds n:=⟨_,rfl⟩
 rw [← hR]at HC ⊢
 obtain⟨ser,hser⟩:∃ x,x=stackErr R code false:=⟨_,rfl⟩
 rw [← hser]at HC
 have HSER:=Zh hser
 clear h hsz hg hm hR hser
 have HL0:=Zh (p:=Locs w ((w.alloc (.cells #[Z O bef,Z O aft,Zl a m c] 24)).alloc (.cells #[Z O 0,Z O 0] 32)) [(w.heap.size,24,[Z O bef,Z O aft,Zl a m c]),(w.heap.size+1,32,[Z O 0,Z O 0])] []) (((Locs.start w).alloc 24 [Z O bef,Z O aft,Zl a m c] rfl).alloc 32 [Z O 0,Z O 0] (World.size_alloc _ _))
 go_enter Try.func30,Try.ntmps30
 go_upto_region 2 with(first
  | (go_at_call 50;refine(HC.out _ HL0.out.low).mono ?_;rintro e w3 ⟨s,dl,dh,wl,wh,pil,boi,fa,fn,fc,rfl,hb,hx⟩;have HX:=Zh hx;have HL1:=Zh (HL0.out.below hb);clear hb hx)
  | ((with_reducible refine at_store 49 (.tmp 8) (.tmp 15) ?_);go_must (refine Zw rfl 49 (.tmp 8) (.tmp 15) rfl w3.heap.size 0 #[Zs s,Z O dl,Z O dh,Z O wl,Z O wh,Z O pil,Z O boi,Zl fa fn fc] rfl rfl ((Blk.new w3 49 #[Zs ⟨#[]⟩,Z O 0,Z O 0,Z O 0,Z O 0,Z O 0,Z O 0,Zl none 0 0]).there (o:=0) (n:=8) (Zn rfl)) size_stackK (by simp [Value.oneCell']) ?_)))
 clear HL0 HC
 generalize w.heap.size+1=gr at HL1 ⊢
 obtain⟨gy,hgy⟩:∃ g,g=w.heap.size:=⟨_,rfl⟩
 rw [← hgy]at HL1 ⊢
 clear hgy
 have HL2:=Zh (p:=Locs w ((w3.alloc (.cells #[Zs ⟨#[]⟩,Z O 0,Z O 0,Z O 0,Z O 0,Z O 0,Z O 0,Zl none 0 0] 49)).setCells w3.heap.size 0 [Zs s,Z O dl,Z O dh,Z O wl,Z O wh,Z O pil,Z O boi,Zl fa fn fc]) [(gy,24,[Z O bef,Z O aft,Zl a m c]),(gr,32,[Z O 0,Z O 0]),(w3.heap.size,49,[Zs s,Z O dl,Z O dh,Z O wl,Z O wh,Z O pil,Z O boi,Zl fa fn fc])] []) ((HL1.out.alloc 49 [Zs ⟨#[]⟩,Z O 0,Z O 0,Z O 0,Z O 0,Z O 0,Z O 0,Zl none 0 0] rfl).setLoc 2 [] [Zs ⟨#[]⟩,Z O 0,Z O 0,Z O 0,Z O 0,Z O 0,Z O 0,Zl none 0 0] [] [Zs s,Z O dl,Z O dh,Z O wl,Z O wh,Z O pil,Z O boi,Zl fa fn fc] rfl rfl)
 clear HL1
 generalize((w3.alloc (.cells #[Zs ⟨#[]⟩,Z O 0,Z O 0,Z O 0,Z O 0,Z O 0,Z O 0,Zl none 0 0] 49)).setCells w3.heap.size 0 [Zs s,Z O dl,Z O dh,Z O wl,Z O wh,Z O pil,Z O boi,Zl fa fn fc])=v1 at HL2 ⊢
 generalize w3.heap.size=gk at HL2 ⊢
 try simp only [Act.put]
 by_cases h1:ser=0
 ·skip
  subst h1
  obtain⟨src,hx,⟨q,hq,hs⟩,_⟩:=HX.out rfl
  obtain⟨⟨u1,u2,u3⟩,⟨u4,u5,u6⟩⟩:=stk_fit hs hq
  simp only at u1 u2 u3 u4 u5 u6
  have HT:=Zh (the_stack hx)
  clear hx hs hq HX
  by_cases h2:dl=0
  ·skip
   have hne:(dl == 0)=true:=by simpa using h2
   have HE:=Zh (p:=moistRes R code=(0,0,8)) (by unfold moistRes;rw [if_neg (by rw [← HSER.out];simp),HT.out,if_pos h2])
   have s0:=HL2.out.at 2 1 (v:=Z O dl) rfl rfl
   go_wp2_with ((with_reducible refine at_store 32 (.tmp 6) (.tmp 25) ?_);go_must (refine Zw rfl 32 (.tmp 6) (.tmp 25) rfl gr 0 #[Z O 0,Z O 0] rfl rfl (HL2.out.there 1 (o:=0) (n:=2) rfl (Zn rfl)) size_bounds (by simp [Value.oneCell']) ?_))
   have HLf:=Zh (p:=Locs w (v1.setCells gr 0 [Z O 0,Z O 0]) [(gy,24,[Z O bef,Z O aft,Zl a m c]),(gr,32,[Z O 0,Z O 0]),(gk,49,[Zs s,Z O dl,Z O dh,Z O wl,Z O wh,Z O pil,Z O boi,Zl fa fn fc])] []) (HL2.out.put 1 0 _ rfl)
   have r0:=HLf.out.at 1 0 (v:=Z O 0) rfl rfl
   have r1:=HLf.out.at 1 1 (v:=Z O 0) rfl rfl
   refine bodyPost_ret (v:=.tuple #[.agg #[Z O 0,Z O 0],Z O 8]) (by simp [results,Try.results30,go_sem,r0,r1]) rfl ?_
   exact⟨by rw [HE.out],HLf.out.low⟩
  ·skip
   have HE:=Zh (p:=moistRes R code=(wl*1000/dh,(wh*1000+dl-1)/dl,0)) (by unfold moistRes;rw [if_neg (by rw [← HSER.out];simp),HT.out,if_neg h2])
   have hne:(dl == 0)=false:=by simpa using h2
   have hne2:(dh == 0)=false:=by simp;omega
   have s0:=HL2.out.at 2 1 (v:=Z O dl) rfl rfl
   go_upto_region 6 with fail
   clear s0
   have q0:=Zg (HL2.out.at 2 1 (v:=Z O dl) rfl rfl)
   have q1:=Zg (HL2.out.at 2 2 (v:=Z O dh) rfl rfl)
   have q2:=Zg (HL2.out.at 2 3 (v:=Z O wl) rfl rfl)
   have q3:=Zg (HL2.out.at 2 4 (v:=Z O wh) rfl rfl)
   refine region_split_below 22 (by kernel_rfl) (by kernel_rfl) (by kernel_rfl) ?_
   simp only [List.take_succ_cons,List.take_zero,List.drop_succ_cons,List.drop_zero]
   repeat(go_big_quiet_step (fail))
   refine wpQuiet_nil ?_
   intro wq hw'
   have hb8:Below v1.heap.size v1 wq:=by obtain⟨⟨dq,osq⟩,hw''⟩:=hw';rw [hw''];exact Zk _ dq osq
   clear hw' q0 q1 q2 q3
   have HL3:=Zh (HL2.out.below hb8)
   clear hb8 HL2
   generalize wq=v2 at HL3 ⊢
   go_wp2_with ((with_reducible refine at_store 32 (.tmp 6) (.tmp 47) ?_);go_must (refine Zw rfl 32 (.tmp 6) (.tmp 47) rfl gr 0 #[Z O (wl*1000/dh),Z O ((wh*1000+dl-1)/dl)] rfl rfl (HL3.out.there 1 (o:=0) (n:=2) rfl (Zn rfl)) size_bounds (by simp [Value.oneCell']) ?_))
   have HLf:=Zh (p:=Locs w (v2.setCells gr 0 [Z O (wl*1000/dh),Z O ((wh*1000+dl-1)/dl)]) [(gy,24,[Z O bef,Z O aft,Zl a m c]),(gr,32,[Z O (wl*1000/dh),Z O ((wh*1000+dl-1)/dl)]),(gk,49,[Zs s,Z O dl,Z O dh,Z O wl,Z O wh,Z O pil,Z O boi,Zl fa fn fc])] []) (HL3.out.put 1 0 _ rfl)
   have r0:=HLf.out.at 1 0 (v:=Z O (wl*1000/dh)) rfl rfl
   have r1:=HLf.out.at 1 1 (v:=Z O ((wh*1000+dl-1)/dl)) rfl rfl
   refine bodyPost_ret (v:=.tuple #[.agg #[Z O (wl*1000/dh),Z O ((wh*1000+dl-1)/dl)],Z O 0]) (by simp [results,Try.results30,go_sem,r0,r1]) rfl ?_
   exact⟨by rw [HE.out],HLf.out.low⟩
 ·skip
  have d1:(ser == 0)=false:=by simpa using h1
  have d2:(ser != 0)=true:=by simpa using h1
  have HE:=Zh (p:=moistRes R code=(0,0,ser)) (by unfold moistRes;rw [if_pos (by rw [← HSER.out];exact h1),← HSER.out])
  clear h1 HX
  go_wp2_with ((with_reducible refine at_store 32 (.tmp 6) (.tmp 19) ?_);go_must (refine Zw rfl 32 (.tmp 6) (.tmp 19) rfl gr 0 #[Z O 0,Z O 0] rfl rfl (HL2.out.there 1 (o:=0) (n:=2) rfl (Zn rfl)) size_bounds (by simp [Value.oneCell']) ?_))
  have HLf:=Zh (p:=Locs w (v1.setCells gr 0 [Z O 0,Z O 0]) [(gy,24,[Z O bef,Z O aft,Zl a m c]),(gr,32,[Z O 0,Z O 0]),(gk,49,[Zs s,Z O dl,Z O dh,Z O wl,Z O wh,Z O pil,Z O boi,Zl fa fn fc])] []) (HL2.out.put 1 0 _ rfl)
  have r0:=HLf.out.at 1 0 (v:=Z O 0) rfl rfl
  have r1:=HLf.out.at 1 1 (v:=Z O 0) rfl rfl
  refine bodyPost_ret (v:=.tuple #[.agg #[Z O 0,Z O 0],Z O ser]) (by simp [results,Try.results30,go_sem,r0,r1]) rfl ?_
  exact⟨by rw [HE.out],HLf.out.low⟩
theorem rmoist_any (bef aft:Int)(v:Value)(ds:List (Deed Code))(n:Int)(code:Code)(w:World)(h:Held w.heap.size w 8 deedCells v ds)(hsz:∀ d ∈ ds,d.stack.size≤maxLen∧d.other.size≤maxLen)(hg:greatB ds=false) :
  Calls Try.prog 31 #[.agg #[Z O bef,Z O aft,v],Z O n,Zs code] w (MoistAny w (moistRes (followAny bef aft ds n) code)):=by
 have HC:=Zh (fun(W:World) (hW:Below w.heap.size w W)=>rstack_any bef aft v ds n code false W ((h.below hW).mono hW.size) hsz hg)
 obtain⟨a,c,rfl,_,_⟩:=h.slice
 obtain⟨m,hm⟩:∃ m,m=ds.length:=⟨_,rfl⟩
 rw [← hm]at HC ⊢
 obtain⟨R,hR⟩:∃ R,R=followAny bef aft ds n:=⟨_,rfl⟩
 rw [← hR]at HC ⊢
 obtain⟨ser,hser⟩:∃ x,x=stackErr R code false:=⟨_,rfl⟩
 rw [← hser]at HC
 have HSER:=Zh hser
 clear h hsz hg hm hR hser
 have HL0:=Zh (p:=Locs w ((w.alloc (.cells #[Z O bef,Z O aft,Zl a m c] 24)).alloc (.cells #[Z O 0,Z O 0] 32)) [(w.heap.size,24,[Z O bef,Z O aft,Zl a m c]),(w.heap.size+1,32,[Z O 0,Z O 0])] []) (((Locs.start w).alloc 24 [Z O bef,Z O aft,Zl a m c] rfl).alloc 32 [Z O 0,Z O 0] (World.size_alloc _ _))
 go_enter Try.func31,Try.ntmps31
 go_upto_region 2 with(first
  | (go_at_call 55;refine(HC.out _ HL0.out.low).mono ?_;rintro e w3 ⟨s,dl,dh,wl,wh,pil,boi,fa,fn,fc,rfl,hb,hx⟩;have HX:=Zh hx;have HL1:=Zh (HL0.out.below hb);clear hb hx)
  | ((with_reducible refine at_store 49 (.tmp 8) (.tmp 15) ?_);go_must (refine Zw rfl 49 (.tmp 8) (.tmp 15) rfl w3.heap.size 0 #[Zs s,Z O dl,Z O dh,Z O wl,Z O wh,Z O pil,Z O boi,Zl fa fn fc] rfl rfl ((Blk.new w3 49 #[Zs ⟨#[]⟩,Z O 0,Z O 0,Z O 0,Z O 0,Z O 0,Z O 0,Zl none 0 0]).there (o:=0) (n:=8) (Zn rfl)) size_stackK (by simp [Value.oneCell']) ?_)))
 clear HL0 HC
 generalize w.heap.size+1=gr at HL1 ⊢
 obtain⟨gy,hgy⟩:∃ g,g=w.heap.size:=⟨_,rfl⟩
 rw [← hgy]at HL1 ⊢
 clear hgy
 have HL2:=Zh (p:=Locs w ((w3.alloc (.cells #[Zs ⟨#[]⟩,Z O 0,Z O 0,Z O 0,Z O 0,Z O 0,Z O 0,Zl none 0 0] 49)).setCells w3.heap.size 0 [Zs s,Z O dl,Z O dh,Z O wl,Z O wh,Z O pil,Z O boi,Zl fa fn fc]) [(gy,24,[Z O bef,Z O aft,Zl a m c]),(gr,32,[Z O 0,Z O 0]),(w3.heap.size,49,[Zs s,Z O dl,Z O dh,Z O wl,Z O wh,Z O pil,Z O boi,Zl fa fn fc])] []) ((HL1.out.alloc 49 [Zs ⟨#[]⟩,Z O 0,Z O 0,Z O 0,Z O 0,Z O 0,Z O 0,Zl none 0 0] rfl).setLoc 2 [] [Zs ⟨#[]⟩,Z O 0,Z O 0,Z O 0,Z O 0,Z O 0,Z O 0,Zl none 0 0] [] [Zs s,Z O dl,Z O dh,Z O wl,Z O wh,Z O pil,Z O boi,Zl fa fn fc] rfl rfl)
 clear HL1
 generalize((w3.alloc (.cells #[Zs ⟨#[]⟩,Z O 0,Z O 0,Z O 0,Z O 0,Z O 0,Z O 0,Zl none 0 0] 49)).setCells w3.heap.size 0 [Zs s,Z O dl,Z O dh,Z O wl,Z O wh,Z O pil,Z O boi,Zl fa fn fc])=v1 at HL2 ⊢
 generalize w3.heap.size=gk at HL2 ⊢
 try simp only [Act.put]
 by_cases h1:ser=0
 ·skip
  subst h1
  obtain⟨src,hx,⟨q,hq,hs⟩,_⟩:=HX.out rfl
  obtain⟨⟨u1,u2,u3⟩,⟨u4,u5,u6⟩⟩:=stk_fit hs hq
  simp only at u1 u2 u3 u4 u5 u6
  have HT:=Zh (the_stack hx)
  clear hx hs hq HX
  by_cases h2:dl=0
  ·skip
   have hne:(dl == 0)=true:=by simpa using h2
   have HE:=Zh (p:=moistRes R code=(0,0,8)) (by unfold moistRes;rw [if_neg (by rw [← HSER.out];simp),HT.out,if_pos h2])
   have s0:=HL2.out.at 2 1 (v:=Z O dl) rfl rfl
   go_wp2_with ((with_reducible refine at_store 32 (.tmp 6) (.tmp 27) ?_);go_must (refine Zw rfl 32 (.tmp 6) (.tmp 27) rfl gr 0 #[Z O 0,Z O 0] rfl rfl (HL2.out.there 1 (o:=0) (n:=2) rfl (Zn rfl)) size_bounds (by simp [Value.oneCell']) ?_))
   have HLf:=Zh (p:=Locs w (v1.setCells gr 0 [Z O 0,Z O 0]) [(gy,24,[Z O bef,Z O aft,Zl a m c]),(gr,32,[Z O 0,Z O 0]),(gk,49,[Zs s,Z O dl,Z O dh,Z O wl,Z O wh,Z O pil,Z O boi,Zl fa fn fc])] []) (HL2.out.put 1 0 _ rfl)
   have r0:=HLf.out.at 1 0 (v:=Z O 0) rfl rfl
   have r1:=HLf.out.at 1 1 (v:=Z O 0) rfl rfl
   refine bodyPost_ret (v:=.tuple #[.agg #[Z O 0,Z O 0],Z O 8]) (by simp [results,Try.results31,go_sem,r0,r1]) rfl ?_
   exact⟨by rw [HE.out],HLf.out.low⟩
  ·skip
   have HE:=Zh (p:=moistRes R code=(wl*1000/dh,(wh*1000+dl-1)/dl,0)) (by unfold moistRes;rw [if_neg (by rw [← HSER.out];simp),HT.out,if_neg h2])
   have hne:(dl == 0)=false:=by simpa using h2
   have hne2:(dh == 0)=false:=by simp;omega
   have s0:=HL2.out.at 2 1 (v:=Z O dl) rfl rfl
   go_upto_region 6 with fail
   clear s0
   have q0:=Zg (HL2.out.at 2 1 (v:=Z O dl) rfl rfl)
   have q1:=Zg (HL2.out.at 2 2 (v:=Z O dh) rfl rfl)
   have q2:=Zg (HL2.out.at 2 3 (v:=Z O wl) rfl rfl)
   have q3:=Zg (HL2.out.at 2 4 (v:=Z O wh) rfl rfl)
   refine region_split_below 22 (by kernel_rfl) (by kernel_rfl) (by kernel_rfl) ?_
   simp only [List.take_succ_cons,List.take_zero,List.drop_succ_cons,List.drop_zero]
   repeat(go_big_quiet_step (fail))
   refine wpQuiet_nil ?_
   intro wq hw'
   have hb8:Below v1.heap.size v1 wq:=by obtain⟨⟨dq,osq⟩,hw''⟩:=hw';rw [hw''];exact Zk _ dq osq
   clear hw' q0 q1 q2 q3
   have HL3:=Zh (HL2.out.below hb8)
   clear hb8 HL2
   generalize wq=v2 at HL3 ⊢
   go_wp2_with ((with_reducible refine at_store 32 (.tmp 6) (.tmp 50) ?_);go_must (refine Zw rfl 32 (.tmp 6) (.tmp 50) rfl gr 0 #[Z O (wl*1000/dh),Z O ((wh*1000+dl-1)/dl)] rfl rfl (HL3.out.there 1 (o:=0) (n:=2) rfl (Zn rfl)) size_bounds (by simp [Value.oneCell']) ?_))
   have HLf:=Zh (p:=Locs w (v2.setCells gr 0 [Z O (wl*1000/dh),Z O ((wh*1000+dl-1)/dl)]) [(gy,24,[Z O bef,Z O aft,Zl a m c]),(gr,32,[Z O (wl*1000/dh),Z O ((wh*1000+dl-1)/dl)]),(gk,49,[Zs s,Z O dl,Z O dh,Z O wl,Z O wh,Z O pil,Z O boi,Zl fa fn fc])] []) (HL3.out.put 1 0 _ rfl)
   have r0:=HLf.out.at 1 0 (v:=Z O (wl*1000/dh)) rfl rfl
   have r1:=HLf.out.at 1 1 (v:=Z O ((wh*1000+dl-1)/dl)) rfl rfl
   refine bodyPost_ret (v:=.tuple #[.agg #[Z O (wl*1000/dh),Z O ((wh*1000+dl-1)/dl)],Z O 0]) (by simp [results,Try.results31,go_sem,r0,r1]) rfl ?_
   exact⟨by rw [HE.out],HLf.out.low⟩
 ·skip
  have d1:(ser == 0)=false:=by simpa using h1
  have d2:(ser != 0)=true:=by simpa using h1
  have HE:=Zh (p:=moistRes R code=(0,0,ser)) (by unfold moistRes;rw [if_pos (by rw [← HSER.out];exact h1),← HSER.out])
  clear h1 HX
  go_wp2_with ((with_reducible refine at_store 32 (.tmp 6) (.tmp 27) ?_);go_must (refine Zw rfl 32 (.tmp 6) (.tmp 27) rfl gr 0 #[Z O 0,Z O 0] rfl rfl (HL2.out.there 1 (o:=0) (n:=2) rfl (Zn rfl)) size_bounds (by simp [Value.oneCell']) ?_))
  have HLf:=Zh (p:=Locs w (v1.setCells gr 0 [Z O 0,Z O 0]) [(gy,24,[Z O bef,Z O aft,Zl a m c]),(gr,32,[Z O 0,Z O 0]),(gk,49,[Zs s,Z O dl,Z O dh,Z O wl,Z O wh,Z O pil,Z O boi,Zl fa fn fc])] []) (HL2.out.put 1 0 _ rfl)
  have r0:=HLf.out.at 1 0 (v:=Z O 0) rfl rfl
  have r1:=HLf.out.at 1 1 (v:=Z O 0) rfl rfl
  refine bodyPost_ret (v:=.tuple #[.agg #[Z O 0,Z O 0],Z O ser]) (by simp [results,Try.results31,go_sem,r0,r1]) rfl ?_
  exact⟨by rw [HE.out],HLf.out.low⟩
theorem dry_any (bef aft:Int)(v:Value)(ds:List (Deed Code))(n:Int)(code:Code)(most:Int)(w:World)(h:Held w.heap.size w 8 deedCells v ds)(hsz:∀ d ∈ ds,d.stack.size≤maxLen∧d.other.size≤maxLen)(hg:greatB ds=false) :
  Calls Try.prog 32 #[.agg #[Z O bef,Z O aft,v],Z O n,Zs code,Z O most] w (DryAny w (dryRes (followAny bef aft ds n) code most)):=by
 have HC:=Zh (fun(W:World) (hW:Below w.heap.size w W)=>stackAfter_any bef aft v ds n code W ((h.below hW).mono hW.size) hsz hg)
 have HF:=Zh (fun(W:World) (hW:Below w.heap.size w W)=>checkFirst_any bef aft v ds n W ((h.below hW).mono hW.size) (sizes_max hsz))
 obtain⟨a,c,rfl,_,_⟩:=h.slice
 obtain⟨m,hm⟩:∃ m,m=ds.length:=⟨_,rfl⟩
 rw [← hm]at HC HF ⊢
 obtain⟨R,hR⟩:∃ R,R=followAny bef aft ds n:=⟨_,rfl⟩
 rw [← hR]at HC ⊢
 have hfe:R.2.2.2=errFirst bef aft ds n:=by rw [hR];exact followAny_err _ _ _ _
 rw [← hfe]at HF
 obtain⟨fe,hf2⟩:∃ x,x=R.2.2.2:=⟨_,rfl⟩
 rw [← hf2]at HF
 have HFE:=Zh hf2
 obtain⟨ser,hser⟩:∃ x,x=stackErr R code false:=⟨_,rfl⟩
 rw [← hser]at HC
 have HSER:=Zh hser
 clear h hsz hg hm hR hser hfe hf2
 have HL0:=Zh (p:=Locs w (w.alloc (.cells #[Z O bef,Z O aft,Zl a m c] 24)) [(w.heap.size,24,[Z O bef,Z O aft,Zl a m c])] []) ((Locs.start w).alloc 24 [Z O bef,Z O aft,Zl a m c] rfl)
 go_enter Try.func32,Try.ntmps32
 go_upto_region 2 with(go_at_call 40;refine(HF.out _ HL0.out.low).mono ?_;rintro e w2 ⟨rfl,hb⟩;have HL1:=Zh (HL0.out.below hb);clear hb)
 clear HL0 HF
 by_cases h1:fe=0
 ·skip
  subst h1
  obtain⟨vb,hvb⟩:∃ b,b=inB most 0 3000:=⟨_,rfl⟩
  have HVB:=Zh hvb
  clear hvb
  have HWI:=Zh (p:=∀ W,Calls Try.prog 47 #[Z O most,Z O 0,Z O 3000] W fun e w'=>e=.returned (.bool vb)∧W=w') (fun W=>by rw [HVB.out];exact within_calls _ _ _ _)
  cases vb with
  | false =>
    have HE:=Zh (show dryRes R code most=(0,1)from by
     have h1:stackErr R code (!inB most 0 3000)=1:=by rw [← HVB.out];unfold stackErr;rw [if_neg (by rw [← HFE.out];simp),if_pos (by rfl)]
     unfold dryRes
     rw [h1,if_pos (by decide)])
    go_wp2_with (go_at_call 47;refine(HWI.out _).mono ?_;rintro e w' ⟨rfl,rfl⟩)
    go_ret2
    exact⟨by rw [HE.out];rfl,HL1.out.low⟩
  | true =>
    have HMO:=Zh (inB_of HVB.out.symm)
    have y0:=HL1.out.at 0 0 (v:=Z O bef) rfl rfl
    have y1:=HL1.out.at 0 1 (v:=Z O aft) rfl rfl
    have y2:=HL1.out.at 0 2 (v:=Zl a m c) rfl rfl
    go_upto_region 8 with(first
     | (go_at_call 47;refine(HWI.out _).mono ?_;rintro e w' ⟨rfl,rfl⟩)
     | (go_at_call 50;refine(HC.out _ HL1.out.low).mono ?_;rintro e w3 ⟨s,dl,dh,wl,wh,pil,boi,fa,fn,fc,rfl,hb,hx⟩;have HX:=Zh hx;have HL2:=Zh (HL1.out.below hb);clear hb hx)
     | ((with_reducible refine at_store 49 (.tmp 11) (.tmp 27) ?_);go_must (refine Zw rfl 49 (.tmp 11) (.tmp 27) rfl w3.heap.size 0 #[Zs s,Z O dl,Z O dh,Z O wl,Z O wh,Z O pil,Z O boi,Zl fa fn fc] rfl rfl ((Blk.new w3 49 #[Zs ⟨#[]⟩,Z O 0,Z O 0,Z O 0,Z O 0,Z O 0,Z O 0,Zl none 0 0]).there (o:=0) (n:=8) (Zn rfl)) size_stackK (by simp [Value.oneCell']) ?_)))
    clear HL1 HC y0 y1 y2
    have HL3:=Zh (p:=Locs w ((w3.alloc (.cells #[Zs ⟨#[]⟩,Z O 0,Z O 0,Z O 0,Z O 0,Z O 0,Z O 0,Zl none 0 0] 49)).setCells w3.heap.size 0 [Zs s,Z O dl,Z O dh,Z O wl,Z O wh,Z O pil,Z O boi,Zl fa fn fc]) [(w.heap.size,24,[Z O bef,Z O aft,Zl a m c]),(w3.heap.size,49,[Zs s,Z O dl,Z O dh,Z O wl,Z O wh,Z O pil,Z O boi,Zl fa fn fc])] []) ((HL2.out.alloc 49 [Zs ⟨#[]⟩,Z O 0,Z O 0,Z O 0,Z O 0,Z O 0,Z O 0,Zl none 0 0] rfl).setLoc 1 [] [Zs ⟨#[]⟩,Z O 0,Z O 0,Z O 0,Z O 0,Z O 0,Z O 0,Zl none 0 0] [] [Zs s,Z O dl,Z O dh,Z O wl,Z O wh,Z O pil,Z O boi,Zl fa fn fc] rfl rfl)
    clear HL2
    generalize((w3.alloc (.cells #[Zs ⟨#[]⟩,Z O 0,Z O 0,Z O 0,Z O 0,Z O 0,Z O 0,Zl none 0 0] 49)).setCells w3.heap.size 0 [Zs s,Z O dl,Z O dh,Z O wl,Z O wh,Z O pil,Z O boi,Zl fa fn fc])=v1 at HL3 ⊢
    generalize w3.heap.size=gk at HL3 ⊢
    try simp only [Act.put]
    by_cases h2:ser=0
    ·skip
     subst h2
     obtain⟨src,hx,⟨q,hq,hs⟩,_⟩:=HX.out rfl
     obtain⟨⟨u1,u2,u3⟩,⟨u4,u5,u6⟩⟩:=stk_fit hs hq
     simp only at u1 u2 u3 u4 u5 u6
     have HT:=Zh (the_stack hx)
     clear hx hs hq HX
     have hp1:=mul_fit (x:=most) (y:=dl) (n:=3000) (m:=2000000000000000) HMO.out ⟨u1,by omega⟩
     have hp2:=mul_fit (x:=most) (y:=dh) (n:=3000) (m:=2000000000000000) HMO.out ⟨by omega,u3⟩
     by_cases hA:wh*1000≤most*dl
     ·skip
      have dA:decide (wh*1000≤most*dl)=true:=by simpa using hA
      have HE:=Zh (p:=dryRes R code most=(1,0)) (by unfold dryRes;rw [if_neg (by rw [← HVB.out,show(!true)=false from rfl,← HSER.out];simp),HT.out,if_pos hA])
      have s0:=HL3.out.at 1 1 (v:=Z O dl) rfl rfl
      have s1:=HL3.out.at 1 2 (v:=Z O dh) rfl rfl
      have s2:=HL3.out.at 1 3 (v:=Z O wl) rfl rfl
      have s3:=HL3.out.at 1 4 (v:=Z O wh) rfl rfl
      go_wp2
      go_ret2
      exact⟨by rw [HE.out];rfl,HL3.out.low⟩
     by_cases hB:most*dh<wl*1000
     ·skip
      have dA:decide (wh*1000≤most*dl)=false:=by simpa using hA
      have dB:decide (most*dh<wl*1000)=true:=by simpa using hB
      have HE:=Zh (p:=dryRes R code most=(2,0)) (by unfold dryRes;rw [if_neg (by rw [← HVB.out,show(!true)=false from rfl,← HSER.out];simp),HT.out,if_neg hA,if_pos hB])
      have s0:=HL3.out.at 1 1 (v:=Z O dl) rfl rfl
      have s1:=HL3.out.at 1 2 (v:=Z O dh) rfl rfl
      have s2:=HL3.out.at 1 3 (v:=Z O wl) rfl rfl
      have s3:=HL3.out.at 1 4 (v:=Z O wh) rfl rfl
      go_wp2
      go_ret2
      exact⟨by rw [HE.out];rfl,HL3.out.low⟩
     ·skip
      have dA:decide (wh*1000≤most*dl)=false:=by simpa using hA
      have dB:decide (most*dh<wl*1000)=false:=by simpa using hB
      have HE:=Zh (p:=dryRes R code most=(0,0)) (by unfold dryRes;rw [if_neg (by rw [← HVB.out,show(!true)=false from rfl,← HSER.out];simp),HT.out,if_neg hA,if_neg hB])
      have s0:=HL3.out.at 1 1 (v:=Z O dl) rfl rfl
      have s1:=HL3.out.at 1 2 (v:=Z O dh) rfl rfl
      have s2:=HL3.out.at 1 3 (v:=Z O wl) rfl rfl
      have s3:=HL3.out.at 1 4 (v:=Z O wh) rfl rfl
      go_wp2
      go_ret2
      exact⟨by rw [HE.out];rfl,HL3.out.low⟩
    ·skip
     have d1:(ser == 0)=false:=by simpa using h2
     have d2:(ser != 0)=true:=by simpa using h2
     have HE:=Zh (p:=dryRes R code most=(0,ser)) (by unfold dryRes;rw [← HVB.out,show(!true)=false from rfl,if_pos (by rw [← HSER.out];exact h2),← HSER.out])
     clear h2 HX
     go_wp2
     go_ret2
     exact⟨by rw [HE.out];rfl,HL3.out.low⟩
 ·skip
  have d1:(fe == 0)=false:=by simpa using h1
  have d2:(fe != 0)=true:=by simpa using h1
  have HE:=Zh (show dryRes R code most=(0,fe)from by
   have h3:stackErr R code (!inB most 0 3000)=fe:=by unfold stackErr;rw [if_pos (by rw [← HFE.out];exact h1),← HFE.out]
   unfold dryRes
   rw [h3,if_pos h1])
  clear h1
  go_wp2
  go_ret2
  exact⟨by rw [HE.out];rfl,HL1.out.low⟩
theorem rdry_any (bef aft:Int)(v:Value)(ds:List (Deed Code))(n:Int)(code:Code)(most:Int)(w:World)(h:Held w.heap.size w 8 deedCells v ds)(hsz:∀ d ∈ ds,d.stack.size≤maxLen∧d.other.size≤maxLen)(hg:greatB ds=false) :
  Calls Try.prog 33 #[.agg #[Z O bef,Z O aft,v],Z O n,Zs code,Z O most] w (DryAny w (dryRes (followAny bef aft ds n) code most)):=by
 have HC:=Zh (fun(W:World) (hW:Below w.heap.size w W)=>rstack_any bef aft v ds n code (!inB most 0 3000) W ((h.below hW).mono hW.size) hsz hg)
 obtain⟨a,c,rfl,_,_⟩:=h.slice
 obtain⟨m,hm⟩:∃ m,m=ds.length:=⟨_,rfl⟩
 rw [← hm]at HC ⊢
 obtain⟨R,hR⟩:∃ R,R=followAny bef aft ds n:=⟨_,rfl⟩
 rw [← hR]at HC ⊢
 obtain⟨vb,hvb⟩:∃ b,b=inB most 0 3000:=⟨_,rfl⟩
 rw [← hvb]at HC
 have HVB:=Zh hvb
 obtain⟨ser,hser⟩:∃ x,x=stackErr R code (!vb):=⟨_,rfl⟩
 rw [← hser]at HC
 have HSER:=Zh hser
 clear h hsz hg hm hR hser hvb
 have HIN:=Zh (p:=∀ W,Calls Try.prog 37 #[Z O most,Z O 0,Z O 3000] W fun e w'=>e=.returned (.bool vb)∧W=w') (fun W=>by rw [HVB.out];exact in_calls _ _ _ _)
 have HL0:=Zh (p:=Locs w (w.alloc (.cells #[Z O bef,Z O aft,Zl a m c] 24)) [(w.heap.size,24,[Z O bef,Z O aft,Zl a m c])] []) ((Locs.start w).alloc 24 [Z O bef,Z O aft,Zl a m c] rfl)
 go_enter Try.func33,Try.ntmps33
 go_upto_region 1 with fail
 generalize World.alloc _ _=w1 at HL0 ⊢
 obtain⟨gy,hgy⟩:∃ g,g=w.heap.size:=⟨_,rfl⟩
 rw [← hgy]at HL0 ⊢
 clear hgy
 go_cut [10,11] (fun sa sb wx => ∃(gk:Nat) (s:Code) (dl dh wl wh pil boi:Int) (fa:Option Addr) (fn fc:Nat),sa=.pointer (some ⟨gk,0,none⟩)∧sb=Z O ser∧Hid (ser=0→∃ src:List Int,R.1.stacks[at_ R.1.stacks code]? = some (⟨s,⟨dl,dh⟩,⟨wl,wh⟩,pil,boi,src⟩:Stk Code)∧(∃ i≤12,SmallStk i (⟨s,⟨dl,dh⟩,⟨wl,wh⟩,pil,boi,src⟩:Stk Code)))∧Hid (Locs w wx [(gy,24,[Z O bef,Z O aft,Zl a m c]),(gk,49,[Zs s,Z O dl,Z O dh,Z O wl,Z O wh,Z O pil,Z O boi,Zl fa fn fc])] []))
 case first =>
  refine region_till [] (fun w'=>Below w1.heap.size w1 w') 13 [false,false,false,false,false,false,false,false,false,false,false,false,false] (by kernel_rfl) rfl rfl ?_
  have HT:=Zh ((Below.refl w1.heap.size w1).drew)
  have HL1:=Zh (HL0.out.drew)
  generalize w1.drew=v1 at HT HL1 ⊢
  refine till_load (i:=0) (v:=.agg #[Z O bef,Z O aft,Zl a m c]) rfl rfl (by kernel_rfl) (fun _ _ _ h=>h) (yields_mid rfl 24 (.tmp 4) rfl (gy) 0 rfl [Z O bef,Z O aft,Zl a m c] _ (fun w' hw'=>HL0.out.rangeB hw' 0 0 _ rfl rfl) Try.underlying24 rfl (by kernel_rfl)) (fun _=>HT.out) ?_
  try simp only [Za,Zb,Zc]
  refine till_pure (i:=1) (v:=Z O n) rfl rfl (by kernel_rfl) (fun _ _ _ h=>h) (yields_of rfl (fun w' _=>by simp [go_sem])) (fun _=>HT.out) ?_
  try simp only [Za,Zb,Zc]
  refine till_pure (i:=2) (v:=Zs code) rfl rfl (by kernel_rfl) (fun _ _ _ h=>h) (yields_of rfl (fun w' _=>by simp [go_sem])) (fun _=>HT.out) ?_
  try simp only [Za,Zb,Zc]
  refine till_pure (i:=3) (v:=Z O most) rfl rfl (by kernel_rfl) (fun _ _ _ h=>h) (yields_of rfl (fun w' _=>by simp [go_sem])) (fun _=>HT.out) ?_
  try simp only [Za,Zb,Zc]
  refine till_two (i:=4) (j:=10) (by kernel_rfl) rfl rfl ?_ ?_
  ·go_wp2_with (go_at_call 37;refine(HIN.out _).mono ?_;rintro e w' ⟨rfl,rfl⟩)
   refine⟨(fun _=>HT.out),?_⟩
   try simp only [Za,Zb,Zc]
   refine till_pure (i:=5) (v:=.bool (!vb)) rfl rfl (by kernel_rfl) (fun _ _ _ h=>h) (yields_of rfl (fun w' _=>by simp [go_sem])) (fun _=>HT.out) ?_
   try simp only [Za,Zb,Zc]
   refine till_two (i:=6) (j:=10) (by kernel_rfl) rfl rfl ?_ ?_
   ·go_wp2_with (go_at_call 55;refine(HC.out _ HL1.out.low).mono ?_;rintro e v2 ⟨s,dl,dh,wl,wh,pil,boi,fa,fn,fc,rfl,hb,hx⟩;have HX:=Zh (p:=ser=0→∃ src:List Int,R.1.stacks[at_ R.1.stacks code]? = some (⟨s,⟨dl,dh⟩,⟨wl,wh⟩,pil,boi,src⟩:Stk Code)∧(∃ i≤12,SmallStk i (⟨s,⟨dl,dh⟩,⟨wl,wh⟩,pil,boi,src⟩:Stk Code))) (fun h0=>by obtain⟨src,h1,h2,_⟩:=hx h0;exact⟨src,h1,h2⟩);have HL2:=Zh (HL1.out.below hb);have HT:=Zh (HT.out.trans (hb.mono HT.out.size));clear hb hx)
    refine⟨(fun _=>HT.out),?_⟩
    try simp only [Za,Zb,Zc]
    refine till_pure (i:=7) (v:=.tuple #[.agg #[Zs s,Z O dl,Z O dh,Z O wl,Z O wh,Z O pil,Z O boi,Zl fa fn fc],Z O ser]) rfl rfl (by kernel_rfl) (fun _ _ _ h=>h) (yields_of rfl (fun w' _=>by simp [go_sem,accCells])) (fun _=>HT.out) ?_
    try simp only [Za,Zb,Zc]
    refine till_pure (i:=8) (v:=.agg #[Zs s,Z O dl,Z O dh,Z O wl,Z O wh,Z O pil,Z O boi,Zl fa fn fc]) rfl rfl (by kernel_rfl) (fun _ _ _ h=>h) (yields_of rfl (fun w' _=>by simp [go_sem])) (fun _=>HT.out) ?_
    try simp only [Za,Zb,Zc]
    refine till_pure (i:=9) (v:=Z O ser) rfl rfl (by kernel_rfl) (fun _ _ _ h=>h) (yields_of rfl (fun w' _=>by simp [go_sem])) (fun _=>HT.out) ?_
    try simp only [Za,Zb,Zc]
    refine till_only (j:=10) (by kernel_rfl) rfl ?_
    go_wp2_with fail
    have HGE_gk:=Zh (p:=w1.heap.size≤v2.heap.size) (HT.out.size)
    have HT2:=Zh (HT.out.alloc HT.out.size (.cells #[Zs ⟨#[]⟩,Z O 0,Z O 0,Z O 0,Z O 0,Z O 0,Z O 0,Zl none 0 0] 49))
    have HL3:=Zh (p:=Locs w (v2.alloc (.cells #[Zs ⟨#[]⟩,Z O 0,Z O 0,Z O 0,Z O 0,Z O 0,Z O 0,Zl none 0 0] 49)) [(gy,24,[Z O bef,Z O aft,Zl a m c]),(v2.heap.size,49,[Zs ⟨#[]⟩,Z O 0,Z O 0,Z O 0,Z O 0,Z O 0,Z O 0,Zl none 0 0])] []) (HL2.out.alloc 49 [Zs ⟨#[]⟩,Z O 0,Z O 0,Z O 0,Z O 0,Z O 0,Z O 0,Zl none 0 0] rfl)
    clear HL2 HT
    generalize World.alloc _ _=v3 at HL3 HT2 ⊢
    have HT:=HT2;clear HT2
    generalize v2.heap.size=gk at HL3 HGE_gk ⊢
    refine⟨(fun _=>HT.out),?_⟩
    try simp only [Za,Zb,Zc]
    refine till_only (j:=11) (by kernel_rfl) rfl ?_
    refine Zw rfl 49 (.tmp 10) (.tmp 20) rfl (gk) 0 #[Zs s,Z O dl,Z O dh,Z O wl,Z O wh,Z O pil,Z O boi,Zl fa fn fc] rfl rfl (HL3.out.there 1 (o:=0) (n:=8) rfl (Zn rfl)) size_stackK (by simp [Value.oneCell']) ?_
    change wpList _ _ _ _ _ (v3.setCells gk 0 [Zs s,Z O dl,Z O dh,Z O wl,Z O wh,Z O pil,Z O boi,Zl fa fn fc])
    have HT2:=Zh (below_setCells HT.out (HGE_gk.out) [Zs s,Z O dl,Z O dh,Z O wl,Z O wh,Z O pil,Z O boi,Zl fa fn fc] 0)
    have HL4:=Zh (p:=Locs w (v3.setCells gk 0 [Zs s,Z O dl,Z O dh,Z O wl,Z O wh,Z O pil,Z O boi,Zl fa fn fc]) [(gy,24,[Z O bef,Z O aft,Zl a m c]),(gk,49,[Zs s,Z O dl,Z O dh,Z O wl,Z O wh,Z O pil,Z O boi,Zl fa fn fc])] []) (HL3.out.put 1 0 _ rfl)
    clear HL3 HT
    generalize World.setCells _ _ _ _=v4 at HL4 HT2 ⊢
    have HT:=HT2;clear HT2
    change Till _ _ _ _∧wpAnyT _ _ _ _ _ _ _ _ _ _
    refine⟨(fun _=>HT.out),?_⟩
    try simp only [Za,Zb,Zc]
    refine till_pure (i:=12) (v:=Z O ser) rfl rfl (by kernel_rfl) (fun _ _ _ h=>h) (yields_of rfl (fun w' _=>by simp [go_sem])) (fun _=>HT.out) ?_
    try simp only [Za,Zb,Zc]
    refine till_done (by kernel_rfl) ?_
    try simp only [Act.put]
    go_wp2_with fail
    go_meet
    case rel=>exact⟨_,s,dl,dh,wl,wh,pil,boi,fa,fn,fc,rfl,rfl,HX,HL4⟩
   ·go_wp2_with fail
    have HGE_gk:=Zh (p:=w1.heap.size≤v1.heap.size) (HT.out.size)
    have HT2:=Zh (HT.out.alloc HT.out.size (.cells #[Zs ⟨#[]⟩,Z O 0,Z O 0,Z O 0,Z O 0,Z O 0,Z O 0,Zl none 0 0] 49))
    have HL2:=Zh (p:=Locs w (v1.alloc (.cells #[Zs ⟨#[]⟩,Z O 0,Z O 0,Z O 0,Z O 0,Z O 0,Z O 0,Zl none 0 0] 49)) [(gy,24,[Z O bef,Z O aft,Zl a m c]),(v1.heap.size,49,[Zs ⟨#[]⟩,Z O 0,Z O 0,Z O 0,Z O 0,Z O 0,Z O 0,Zl none 0 0])] []) (HL1.out.alloc 49 [Zs ⟨#[]⟩,Z O 0,Z O 0,Z O 0,Z O 0,Z O 0,Z O 0,Zl none 0 0] rfl)
    clear HL1 HT
    generalize World.alloc _ _=v5 at HL2 HT2 ⊢
    have HT:=HT2;clear HT2
    generalize v1.heap.size=gk at HL2 HGE_gk ⊢
    refine⟨(fun _=>HT.out),?_⟩
    try simp only [Za,Zb,Zc]
    refine till_only (j:=6) (by kernel_rfl) rfl ?_
    go_wp2_with (go_at_call 55;refine(HC.out _ HL2.out.low).mono ?_;rintro e v6 ⟨s,dl,dh,wl,wh,pil,boi,fa,fn,fc,rfl,hb,hx⟩;have HX:=Zh (p:=ser=0→∃ src:List Int,R.1.stacks[at_ R.1.stacks code]? = some (⟨s,⟨dl,dh⟩,⟨wl,wh⟩,pil,boi,src⟩:Stk Code)∧(∃ i≤12,SmallStk i (⟨s,⟨dl,dh⟩,⟨wl,wh⟩,pil,boi,src⟩:Stk Code))) (fun h0=>by obtain⟨src,h1,h2,_⟩:=hx h0;exact⟨src,h1,h2⟩);have HL3:=Zh (HL2.out.below hb);have HT:=Zh (HT.out.trans (hb.mono HT.out.size));clear hb hx)
    refine⟨(fun _=>HT.out),?_⟩
    try simp only [Za,Zb,Zc]
    refine till_pure (i:=7) (v:=.tuple #[.agg #[Zs s,Z O dl,Z O dh,Z O wl,Z O wh,Z O pil,Z O boi,Zl fa fn fc],Z O ser]) rfl rfl (by kernel_rfl) (fun _ _ _ h=>h) (yields_of rfl (fun w' _=>by simp [go_sem,accCells])) (fun _=>HT.out) ?_
    try simp only [Za,Zb,Zc]
    refine till_pure (i:=8) (v:=.agg #[Zs s,Z O dl,Z O dh,Z O wl,Z O wh,Z O pil,Z O boi,Zl fa fn fc]) rfl rfl (by kernel_rfl) (fun _ _ _ h=>h) (yields_of rfl (fun w' _=>by simp [go_sem])) (fun _=>HT.out) ?_
    try simp only [Za,Zb,Zc]
    refine till_pure (i:=9) (v:=Z O ser) rfl rfl (by kernel_rfl) (fun _ _ _ h=>h) (yields_of rfl (fun w' _=>by simp [go_sem])) (fun _=>HT.out) ?_
    try simp only [Za,Zb,Zc]
    refine till_only (j:=11) (by kernel_rfl) rfl ?_
    refine Zw rfl 49 (.tmp 10) (.tmp 20) rfl (gk) 0 #[Zs s,Z O dl,Z O dh,Z O wl,Z O wh,Z O pil,Z O boi,Zl fa fn fc] rfl rfl (HL3.out.there 1 (o:=0) (n:=8) rfl (Zn rfl)) size_stackK (by simp [Value.oneCell']) ?_
    change wpList _ _ _ _ _ (v6.setCells gk 0 [Zs s,Z O dl,Z O dh,Z O wl,Z O wh,Z O pil,Z O boi,Zl fa fn fc])
    have HT2:=Zh (below_setCells HT.out (HGE_gk.out) [Zs s,Z O dl,Z O dh,Z O wl,Z O wh,Z O pil,Z O boi,Zl fa fn fc] 0)
    have HL4:=Zh (p:=Locs w (v6.setCells gk 0 [Zs s,Z O dl,Z O dh,Z O wl,Z O wh,Z O pil,Z O boi,Zl fa fn fc]) [(gy,24,[Z O bef,Z O aft,Zl a m c]),(gk,49,[Zs s,Z O dl,Z O dh,Z O wl,Z O wh,Z O pil,Z O boi,Zl fa fn fc])] []) (HL3.out.put 1 0 _ rfl)
    clear HL3 HT
    generalize World.setCells _ _ _ _=v7 at HL4 HT2 ⊢
    have HT:=HT2;clear HT2
    change Till _ _ _ _∧wpAnyT _ _ _ _ _ _ _ _ _ _
    refine⟨(fun _=>HT.out),?_⟩
    try simp only [Za,Zb,Zc]
    refine till_pure (i:=12) (v:=Z O ser) rfl rfl (by kernel_rfl) (fun _ _ _ h=>h) (yields_of rfl (fun w' _=>by simp [go_sem])) (fun _=>HT.out) ?_
    try simp only [Za,Zb,Zc]
    refine till_done (by kernel_rfl) ?_
    try simp only [Act.put]
    go_wp2_with fail
    go_meet
    case rel=>exact⟨_,s,dl,dh,wl,wh,pil,boi,fa,fn,fc,rfl,rfl,HX,HL4⟩
  ·go_wp2_with fail
   have HGE_gk:=Zh (p:=w1.heap.size≤v1.heap.size) (HT.out.size)
   have HT2:=Zh (HT.out.alloc HT.out.size (.cells #[Zs ⟨#[]⟩,Z O 0,Z O 0,Z O 0,Z O 0,Z O 0,Z O 0,Zl none 0 0] 49))
   have HL2:=Zh (p:=Locs w (v1.alloc (.cells #[Zs ⟨#[]⟩,Z O 0,Z O 0,Z O 0,Z O 0,Z O 0,Z O 0,Zl none 0 0] 49)) [(gy,24,[Z O bef,Z O aft,Zl a m c]),(v1.heap.size,49,[Zs ⟨#[]⟩,Z O 0,Z O 0,Z O 0,Z O 0,Z O 0,Z O 0,Zl none 0 0])] []) (HL1.out.alloc 49 [Zs ⟨#[]⟩,Z O 0,Z O 0,Z O 0,Z O 0,Z O 0,Z O 0,Zl none 0 0] rfl)
   clear HL1 HT
   generalize World.alloc _ _=v8 at HL2 HT2 ⊢
   have HT:=HT2;clear HT2
   generalize v1.heap.size=gk at HL2 HGE_gk ⊢
   refine⟨(fun _=>HT.out),?_⟩
   try simp only [Za,Zb,Zc]
   refine till_only (j:=4) (by kernel_rfl) rfl ?_
   go_wp2_with (go_at_call 37;refine(HIN.out _).mono ?_;rintro e w' ⟨rfl,rfl⟩)
   refine⟨(fun _=>HT.out),?_⟩
   try simp only [Za,Zb,Zc]
   refine till_pure (i:=5) (v:=.bool (!vb)) rfl rfl (by kernel_rfl) (fun _ _ _ h=>h) (yields_of rfl (fun w' _=>by simp [go_sem])) (fun _=>HT.out) ?_
   try simp only [Za,Zb,Zc]
   refine till_only (j:=6) (by kernel_rfl) rfl ?_
   go_wp2_with (go_at_call 55;refine(HC.out _ HL2.out.low).mono ?_;rintro e v9 ⟨s,dl,dh,wl,wh,pil,boi,fa,fn,fc,rfl,hb,hx⟩;have HX:=Zh (p:=ser=0→∃ src:List Int,R.1.stacks[at_ R.1.stacks code]? = some (⟨s,⟨dl,dh⟩,⟨wl,wh⟩,pil,boi,src⟩:Stk Code)∧(∃ i≤12,SmallStk i (⟨s,⟨dl,dh⟩,⟨wl,wh⟩,pil,boi,src⟩:Stk Code))) (fun h0=>by obtain⟨src,h1,h2,_⟩:=hx h0;exact⟨src,h1,h2⟩);have HL3:=Zh (HL2.out.below hb);have HT:=Zh (HT.out.trans (hb.mono HT.out.size));clear hb hx)
   refine⟨(fun _=>HT.out),?_⟩
   try simp only [Za,Zb,Zc]
   refine till_pure (i:=7) (v:=.tuple #[.agg #[Zs s,Z O dl,Z O dh,Z O wl,Z O wh,Z O pil,Z O boi,Zl fa fn fc],Z O ser]) rfl rfl (by kernel_rfl) (fun _ _ _ h=>h) (yields_of rfl (fun w' _=>by simp [go_sem,accCells])) (fun _=>HT.out) ?_
   try simp only [Za,Zb,Zc]
   refine till_pure (i:=8) (v:=.agg #[Zs s,Z O dl,Z O dh,Z O wl,Z O wh,Z O pil,Z O boi,Zl fa fn fc]) rfl rfl (by kernel_rfl) (fun _ _ _ h=>h) (yields_of rfl (fun w' _=>by simp [go_sem])) (fun _=>HT.out) ?_
   try simp only [Za,Zb,Zc]
   refine till_pure (i:=9) (v:=Z O ser) rfl rfl (by kernel_rfl) (fun _ _ _ h=>h) (yields_of rfl (fun w' _=>by simp [go_sem])) (fun _=>HT.out) ?_
   try simp only [Za,Zb,Zc]
   refine till_only (j:=11) (by kernel_rfl) rfl ?_
   refine Zw rfl 49 (.tmp 10) (.tmp 20) rfl (gk) 0 #[Zs s,Z O dl,Z O dh,Z O wl,Z O wh,Z O pil,Z O boi,Zl fa fn fc] rfl rfl (HL3.out.there 1 (o:=0) (n:=8) rfl (Zn rfl)) size_stackK (by simp [Value.oneCell']) ?_
   change wpList _ _ _ _ _ (v9.setCells gk 0 [Zs s,Z O dl,Z O dh,Z O wl,Z O wh,Z O pil,Z O boi,Zl fa fn fc])
   have HT2:=Zh (below_setCells HT.out (HGE_gk.out) [Zs s,Z O dl,Z O dh,Z O wl,Z O wh,Z O pil,Z O boi,Zl fa fn fc] 0)
   have HL4:=Zh (p:=Locs w (v9.setCells gk 0 [Zs s,Z O dl,Z O dh,Z O wl,Z O wh,Z O pil,Z O boi,Zl fa fn fc]) [(gy,24,[Z O bef,Z O aft,Zl a m c]),(gk,49,[Zs s,Z O dl,Z O dh,Z O wl,Z O wh,Z O pil,Z O boi,Zl fa fn fc])] []) (HL3.out.put 1 0 _ rfl)
   clear HL3 HT
   generalize World.setCells _ _ _ _=v10 at HL4 HT2 ⊢
   have HT:=HT2;clear HT2
   change Till _ _ _ _∧wpAnyT _ _ _ _ _ _ _ _ _ _
   refine⟨(fun _=>HT.out),?_⟩
   try simp only [Za,Zb,Zc]
   refine till_pure (i:=12) (v:=Z O ser) rfl rfl (by kernel_rfl) (fun _ _ _ h=>h) (yields_of rfl (fun w' _=>by simp [go_sem])) (fun _=>HT.out) ?_
   try simp only [Za,Zb,Zc]
   refine till_done (by kernel_rfl) ?_
   try simp only [Act.put]
   go_wp2_with fail
   go_meet
   case rel=>exact⟨_,s,dl,dh,wl,wh,pil,boi,fa,fn,fc,rfl,rfl,HX,HL4⟩
 case rest =>
  obtain⟨gk,s,dl,dh,wl,wh,pil,boi,fa,fn,fc,rfl,rfl,HX,HL9⟩:=hcut
  clear HL0 HC HIN
  by_cases h2:ser=0
  ·skip
   subst h2
   obtain⟨src,hx,⟨q,hq,hs⟩⟩:=HX.out rfl
   obtain⟨⟨u1,u2,u3⟩,⟨u4,u5,u6⟩⟩:=stk_fit hs hq
   simp only at u1 u2 u3 u4 u5 u6
   have HT:=Zh (the_stack hx)
   clear hx hs hq HX
   have HMO:=Zh (inB_of (show inB most 0 3000=true from by
    rw [← HVB.out]
    cases vb with
    | true=>rfl
    | false =>
      have h3:=HSER.out
      unfold stackErr at h3
      split at h3
      ·rename_i h4;exact absurd h3.symm h4
      ·rw [if_pos (by rfl)]at h3;cases h3))
   have hp1:=mul_fit (x:=most) (y:=dl) (n:=3000) (m:=2000000000000000) HMO.out ⟨u1,by omega⟩
   have hp2:=mul_fit (x:=most) (y:=dh) (n:=3000) (m:=2000000000000000) HMO.out ⟨by omega,u3⟩
   by_cases hA:wh*1000≤most*dl
   ·skip
    have dA:decide (wh*1000≤most*dl)=true:=by simpa using hA
    have HE:=Zh (p:=dryRes R code most=(1,0)) (by unfold dryRes;rw [if_neg (by rw [← HVB.out,← HSER.out];simp),HT.out,if_pos hA])
    have s0:=HL9.out.at 1 1 (v:=Z O dl) rfl rfl
    have s1:=HL9.out.at 1 2 (v:=Z O dh) rfl rfl
    have s2:=HL9.out.at 1 3 (v:=Z O wl) rfl rfl
    have s3:=HL9.out.at 1 4 (v:=Z O wh) rfl rfl
    go_wp2
    go_ret2
    exact⟨by rw [HE.out];rfl,HL9.out.low⟩
   by_cases hB:most*dh<wl*1000
   ·skip
    have dA:decide (wh*1000≤most*dl)=false:=by simpa using hA
    have dB:decide (most*dh<wl*1000)=true:=by simpa using hB
    have HE:=Zh (p:=dryRes R code most=(2,0)) (by unfold dryRes;rw [if_neg (by rw [← HVB.out,← HSER.out];simp),HT.out,if_neg hA,if_pos hB])
    have s0:=HL9.out.at 1 1 (v:=Z O dl) rfl rfl
    have s1:=HL9.out.at 1 2 (v:=Z O dh) rfl rfl
    have s2:=HL9.out.at 1 3 (v:=Z O wl) rfl rfl
    have s3:=HL9.out.at 1 4 (v:=Z O wh) rfl rfl
    go_wp2
    go_ret2
    exact⟨by rw [HE.out];rfl,HL9.out.low⟩
   ·skip
    have dA:decide (wh*1000≤most*dl)=false:=by simpa using hA
    have dB:decide (most*dh<wl*1000)=false:=by simpa using hB
    have HE:=Zh (p:=dryRes R code most=(0,0)) (by unfold dryRes;rw [if_neg (by rw [← HVB.out,← HSER.out];simp),HT.out,if_neg hA,if_neg hB])
    have s0:=HL9.out.at 1 1 (v:=Z O dl) rfl rfl
    have s1:=HL9.out.at 1 2 (v:=Z O dh) rfl rfl
    have s2:=HL9.out.at 1 3 (v:=Z O wl) rfl rfl
    have s3:=HL9.out.at 1 4 (v:=Z O wh) rfl rfl
    go_wp2
    go_ret2
    exact⟨by rw [HE.out];rfl,HL9.out.low⟩
  ·skip
   have d1:(ser == 0)=false:=by simpa using h2
   have d2:(ser != 0)=true:=by simpa using h2
   have HE:=Zh (p:=dryRes R code most=(0,ser)) (by unfold dryRes;rw [← HVB.out,if_pos (by rw [← HSER.out];exact h2),← HSER.out])
   clear h2 HX
   go_wp2
   go_ret2
   exact⟨by rw [HE.out];rfl,HL9.out.low⟩
end Go.Proofs.Ytgekekhbhkgekaa
