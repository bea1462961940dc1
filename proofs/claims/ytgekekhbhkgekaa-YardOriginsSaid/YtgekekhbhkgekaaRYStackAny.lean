/- A stack behind the first deeds of any yard: the program's and the document's. -/
import Derived.Test.YtgekekhbhkgekaaRYFollowAny
import Derived.Test.YtgekekhbhkgekaaRYMoist
namespace Go.Proofs.Ytgekekhbhkgekaa
open Go Go.RowKit Go.Shelf Yd
open Go.Value renaming int→Z,string→Zs,slice→Zl
open Go.IntKind renaming i64→O
open Go.Lib renaming hid→Zh
open _root_.Nat renaming le_of_ble_eq_true→Zn
open Go renaming wpList_store_mid→Zw
set_option maxRecDepth 100000
set_option maxHeartbeats 16000000
set_option linter.unusedSimpArgs false
def stacksErr (R:St Code × Int × Int × Int):Int:=if R.2.2.2≠0 then R.2.2.2 else if R.2.2.1≠0 then 9 else 0
def stackErr (R:St Code × Int × Int × Int)(code:Code)(value:Bool):Int :=
 if R.2.2.2≠0 then R.2.2.2 else if value=true then 1 else if R.2.2.1≠0 then 9 else if at_ R.1.stacks code<R.1.stacks.length then 0 else 6
def StacksAny (w:World)(R:St Code × Int × Int × Int)(e:Ending)(w':World):Prop :=
 ∃(aN:List SRow) (tv:Value),e=.returned (.tuple #[tv,Z O (stacksErr R)])∧Below w.heap.size w w'∧Stands w' aN tv∧(stacksErr R=0→aN.map (·.1)=R.1.stacks∧∃ i≤12,SmallSt i R.1)
def StackAny (w:World)(R:St Code × Int × Int × Int)(code:Code)(er:Int)(e:Ending)(w':World):Prop :=
 ∃ (s:Code) (dl dh wl wh pil boi:Int) (fa:Option Addr) (fn fc:Nat),e=.returned (.tuple #[.agg #[Zs s,Z O dl,Z O dh,Z O wl,Z O wh,Z O pil,Z O boi,Zl fa fn fc],Z O er])∧Below w.heap.size w w' ∧
   (er=0→∃ src:List Int,R.1.stacks[at_ R.1.stacks code]? = some (⟨s,⟨dl,dh⟩,⟨wl,wh⟩,pil,boi,src⟩:Stk Code)∧(∃ i≤12,SmallStk i (⟨s,⟨dl,dh⟩,⟨wl,wh⟩,pil,boi,src⟩:Stk Code))∧w'.ownsRow 0 3 1 (Zl fa fn fc) src.length (intCells src))
theorem stackErr_bad {R:St Code × Int × Int × Int}{code:Code}(h:stacksErr R≠0):stackErr R code false=stacksErr R:=by
 unfold stacksErr at h ⊢
 unfold stackErr
 by_cases h1:R.2.2.2≠0
 ·rw [if_pos h1,if_pos h1]
 ·rw [if_neg h1]at h ⊢
  rw [if_neg h1,if_neg (by simp)]
  by_cases h2:R.2.2.1≠0
  ·rw [if_pos h2,if_pos h2]
  ·rw [if_neg h2]at h
   exact absurd rfl h
theorem stackErr_good {R:St Code × Int × Int × Int}{code:Code}(h:stacksErr R=0):stackErr R code false=if at_ R.1.stacks code<R.1.stacks.length then 0 else 6:=by
 unfold stacksErr at h
 unfold stackErr
 by_cases h1:R.2.2.2≠0
 ·rw [if_pos h1]at h
  exact absurd h h1
 ·rw [if_neg h1]at h ⊢
  rw [if_neg (by simp)]
  by_cases h2:R.2.2.1≠0
  ·rw [if_pos h2]at h
   cases h
  ·rw [if_neg h2]
def theStack (R:St Code × Int × Int × Int)(code:Code):Stk Code:=(R.1.stacks[at_ R.1.stacks code]?).getD ⟨⟨#[]⟩,⟨0,0⟩,⟨0,0⟩,0,0,[]⟩
theorem the_stack {R:St Code × Int × Int × Int}{code:Code}{x:Stk Code}(h:R.1.stacks[at_ R.1.stacks code]? = some x):theStack R code=x:=by unfold theStack;rw [h];rfl
theorem followAny_err (bef aft:Int)(ds:List (Deed Code))(n:Int):(followAny bef aft ds n).2.2.2=errFirst bef aft ds n:=by
 unfold followAny
 split
 ·rename_i h;exact h.symm
 ·rfl
theorem size_stackK:(Try.prog.info? 49).map (·.size)=some 8:=by kernel_rfl
theorem stacksAfter_any (bef aft:Int)(v:Value)(ds:List (Deed Code))(n:Int)(w:World)(h:Held w.heap.size w 8 deedCells v ds)(hsz:∀ d ∈ ds,d.stack.size≤maxLen∧d.other.size≤maxLen)(hg:greatB ds=false) :
  Calls Try.prog 48 #[.agg #[Z O bef,Z O aft,v],Z O n] w (StacksAny w (followAny bef aft ds n)):=by
 have HC:=Zh (fun(W:World) (hW:Below w.heap.size w W)=>follow_any bef aft v ds n W ((h.below hW).mono hW.size) hsz hg)
 obtain⟨a,c,rfl,_,_⟩:=h.slice
 obtain⟨m,hm⟩:∃ m,m=ds.length:=⟨_,rfl⟩
 rw [← hm]at HC ⊢
 obtain⟨R,hR⟩:∃ R,R=followAny bef aft ds n:=⟨_,rfl⟩
 rw [← hR]at HC ⊢
 clear h hsz hg hm
 have HL0:=Zh (p:=Locs w (w.alloc (.cells #[Z O bef,Z O aft,Zl a m c] 24)) [(w.heap.size,24,[Z O bef,Z O aft,Zl a m c])] []) ((Locs.start w).alloc 24 [Z O bef,Z O aft,Zl a m c] rfl)
 go_enter Try.func48,Try.ntmps48
 go_upto_region 2 with(first
  | (go_at_call 16;refine(HC.out _ HL0.out.low).mono ?_;rintro e w2 ⟨rows1,tv1,acc1,k,f,er,hr,hsm,rfl,hb,hst⟩;obtain⟨t1a,t1n,t1c,rfl⟩:=row_slice hst.things;have HR:=Zh hr;have HSM:=Zh hsm;clear hr hsm;obtain⟨⟨aA,aB⟩,⟨aC,aD⟩,⟨aE,aF⟩,⟨aG,aH⟩,⟨aI,aJ⟩,⟨aK,aL⟩⟩:=acc1;have HL2:=Zh (HL0.out.stand hb hst rfl);have HO:=Zh (p:=(#[Zl t1a t1n t1c,Z O aA,Z O aB,Z O aC,Z O aD,Z O aE,Z O aF,Z O aG,Z O aH,Z O aI,Z O aJ,Z O aK,Z O aL]:Array Value).all (·.oneCell')=true) (by simp [Value.oneCell']);clear hb hst)
  | ((with_reducible refine at_store 36 (.tmp 6) (.tmp 14) ?_);go_must (refine Zw rfl 36 (.tmp 6) (.tmp 14) rfl w2.heap.size 0 #[Zl t1a t1n t1c,Z O aA,Z O aB,Z O aC,Z O aD,Z O aE,Z O aF,Z O aG,Z O aH,Z O aI,Z O aJ,Z O aK,Z O aL] rfl rfl ((Blk.new w2 36 #[Zl none 0 0,Z O 0,Z O 0,Z O 0,Z O 0,Z O 0,Z O 0,Z O 0,Z O 0,Z O 0,Z O 0,Z O 0,Z O 0]).there (o:=0) (n:=13) (Zn rfl)) size_standing (HO.out) ?_)))
 clear HL0 HC hR
 have hr:=HR.out
 clear HR
 subst hr
 have HL3:=Zh (p:=Locs w ((w2.alloc (.cells #[Zl none 0 0,Z O 0,Z O 0,Z O 0,Z O 0,Z O 0,Z O 0,Z O 0,Z O 0,Z O 0,Z O 0,Z O 0,Z O 0] 36)).setCells w2.heap.size 0 [Zl t1a t1n t1c,Z O aA,Z O aB,Z O aC,Z O aD,Z O aE,Z O aF,Z O aG,Z O aH,Z O aI,Z O aJ,Z O aK,Z O aL]) [(w.heap.size,24,[Z O bef,Z O aft,Zl a m c]),(w2.heap.size,36,[Zl t1a t1n t1c,Z O aA,Z O aB,Z O aC,Z O aD,Z O aE,Z O aF,Z O aG,Z O aH,Z O aI,Z O aJ,Z O aK,Z O aL])] [(rows1,Zl t1a t1n t1c)]) ((HL2.out.alloc 36 [Zl none 0 0,Z O 0,Z O 0,Z O 0,Z O 0,Z O 0,Z O 0,Z O 0,Z O 0,Z O 0,Z O 0,Z O 0,Z O 0] rfl).setLoc 1 [] [Zl none 0 0,Z O 0,Z O 0,Z O 0,Z O 0,Z O 0,Z O 0,Z O 0,Z O 0,Z O 0,Z O 0,Z O 0,Z O 0] [] [Zl t1a t1n t1c,Z O aA,Z O aB,Z O aC,Z O aD,Z O aE,Z O aF,Z O aG,Z O aH,Z O aI,Z O aJ,Z O aK,Z O aL] rfl rfl)
 clear HL2
 generalize((w2.alloc (.cells #[Zl none 0 0,Z O 0,Z O 0,Z O 0,Z O 0,Z O 0,Z O 0,Z O 0,Z O 0,Z O 0,Z O 0,Z O 0,Z O 0] 36)).setCells w2.heap.size 0 [Zl t1a t1n t1c,Z O aA,Z O aB,Z O aC,Z O aD,Z O aE,Z O aF,Z O aG,Z O aH,Z O aI,Z O aJ,Z O aK,Z O aL])=v1 at HL3 ⊢
 generalize w2.heap.size=g1 at HL3 ⊢
 try simp only [Act.put]
 by_cases h1:er=0
 ·skip
  subst h1
  by_cases h2:f=0
  ·skip
   subst h2
   have s0:=HL3.out.at 1 0 (v:=Zl t1a t1n t1c) rfl rfl
   go_wp2
   go_ret2
   exact⟨rows1,Zl t1a t1n t1c,by simp [stacksErr],HL3.out.low,HL3.out.stood 0 rfl,fun _=>⟨rfl,HSM.out⟩⟩
  ·skip
   have d1:(f == 0)=false:=by simpa using h2
   have d2:(f != 0)=true:=by simpa using h2
   have HE:=Zh (p:=stacksErr (stOf rows1 (⟨⟨aA,aB⟩,⟨aC,aD⟩,⟨aE,aF⟩,⟨aG,aH⟩,⟨aI,aJ⟩,⟨aK,aL⟩⟩:Yd.Acc),k,f,0)=9) (by simp [stacksErr,h2])
   clear h2
   go_wp2
   go_ret2
   exact⟨[],Zl none 0 0,by rw [HE.out];rfl,HL3.out.low,stands_none _,fun h=>by rw [HE.out]at h;cases h⟩
 ·skip
  have d1:(er == 0)=false:=by simpa using h1
  have d2:(er != 0)=true:=by simpa using h1
  have HE:=Zh (p:=stacksErr (stOf rows1 (⟨⟨aA,aB⟩,⟨aC,aD⟩,⟨aE,aF⟩,⟨aG,aH⟩,⟨aI,aJ⟩,⟨aK,aL⟩⟩:Yd.Acc),k,f,er)=er) (by simp [stacksErr,h1])
  go_wp2
  go_ret2
  exact⟨[],Zl none 0 0,by rw [HE.out];rfl,HL3.out.low,stands_none _,fun h=>absurd (HE.out.symm.trans h) h1⟩
theorem stackAfter_any (bef aft:Int)(v:Value)(ds:List (Deed Code))(n:Int)(code:Code)(w:World)(h:Held w.heap.size w 8 deedCells v ds)(hsz:∀ d ∈ ds,d.stack.size≤maxLen∧d.other.size≤maxLen)(hg:greatB ds=false) :
  Calls Try.prog 50 #[.agg #[Z O bef,Z O aft,v],Z O n,Zs code] w (StackAny w (followAny bef aft ds n) code (stackErr (followAny bef aft ds n) code false)):=by
 have HC:=Zh (fun(W:World) (hW:Below w.heap.size w W)=>stacksAfter_any bef aft v ds n W ((h.below hW).mono hW.size) hsz hg)
 obtain⟨a,c,rfl,_,_⟩:=h.slice
 obtain⟨m,hm⟩:∃ m,m=ds.length:=⟨_,rfl⟩
 rw [← hm]at HC ⊢
 obtain⟨R,hR⟩:∃ R,R=followAny bef aft ds n:=⟨_,rfl⟩
 rw [← hR]at HC ⊢
 clear h hsz hg hm
 have HL0:=Zh (p:=Locs w (((w.alloc (.cells #[Z O bef,Z O aft,Zl a m c] 24)).alloc (.cells #[Zs code] 9)).alloc (.cells #[Zs ⟨#[]⟩,Z O 0,Z O 0,Z O 0,Z O 0,Z O 0,Z O 0,Zl none 0 0] 49)) [(w.heap.size,24,[Z O bef,Z O aft,Zl a m c]),(w.heap.size+1,9,[Zs code]),(w.heap.size+1+1,49,[Zs ⟨#[]⟩,Z O 0,Z O 0,Z O 0,Z O 0,Z O 0,Z O 0,Zl none 0 0])] []) ((((Locs.start w).alloc 24 [Z O bef,Z O aft,Zl a m c] rfl).alloc 9 [Zs code] (World.size_alloc _ _)).alloc 49 [Zs ⟨#[]⟩,Z O 0,Z O 0,Z O 0,Z O 0,Z O 0,Z O 0,Zl none 0 0] (by rw [World.size_alloc,World.size_alloc]))
 obtain⟨ser,hser⟩:∃ x,x=stacksErr R:=⟨_,rfl⟩
 have HSER:=Zh hser
 clear hR hser
 have hmf:∀(fn:Fn) (first cap:Array Value) (w:World),(Instr.makeFunc fn first cap).run Try.prog w=.ok (.func fn first cap) w:=fun _ _ _ _=>rfl
 go_enter Try.func50,Try.ntmps50
 go_upto_region 2 with(go_at_call 48;refine(HC.out _ HL0.out.low).mono ?_;rintro e w3 ⟨aN,tv,he,hb,hst,hx⟩;rw [← HSER.out]at he hx;subst he;obtain⟨t1a,t1n,t1c,rfl⟩:=row_slice hst.things;have HX:=Zh hx;have HST:=Zh hst;have HL1:=Zh (HL0.out.below hb);clear hb hst hx)
 clear HL0 HC
 generalize w.heap.size+1+1=gr at HL1 ⊢
 generalize w.heap.size+1=gc at HL1 ⊢
 obtain⟨gy,hgy⟩:∃ g,g=w.heap.size:=⟨_,rfl⟩
 rw [← hgy]at HL1 ⊢
 clear hgy
 by_cases h1:ser=0
 ·skip
  subst h1
  obtain⟨hmap,hsm⟩:=HX.out rfl
  have HMAP:=Zh hmap;have HSM:=Zh hsm;have HSE:=Zh (stackErr_good (code:=code) HSER.out.symm)
  clear hmap hsm HSER HX
  go_upto_region 5 with(go_at_call 66;refine(index_calls HST.out code gc (HL1.out.at 1 0 rfl rfl) (HL1.out.far 1 rfl).2).mono ?_;rintro e w4 ⟨rfl,hb⟩;have HST4:=Zh (HST.out.below hb);have HL2:=Zh (HL1.out.below hb);clear hb)
  clear HL1 HST hmf
  cases hi:ixOf aN code with
  | none =>
    rw [show ixInt none = -1 from rfl]
    have HE:=Zh (p:=stackErr R code false=6) (by rw [HSE.out,← HMAP.out,if_neg (ix_none hi)])
    clear hi
    go_wp2_with (first
     | ((with_reducible refine at_store 49 (.tmp 6) (.tmp 26) ?_);go_must (refine Zw rfl 49 (.tmp 6) (.tmp 26) rfl gr 0 #[Zs ⟨#[]⟩,Z O 0,Z O 0,Z O 0,Z O 0,Z O 0,Z O 0,Zl none 0 0] rfl rfl (HL2.out.there 2 (o:=0) (n:=8) rfl (Zn rfl)) size_stackK (by simp [Value.oneCell']) ?_)))
    have HLf:=Zh (p:=Locs w (w4.setCells gr 0 [Zs ⟨#[]⟩,Z O 0,Z O 0,Z O 0,Z O 0,Z O 0,Z O 0,Zl none 0 0]) [(gy,24,[Z O bef,Z O aft,Zl a m c]),(gc,9,[Zs code]),(gr,49,[Zs ⟨#[]⟩,Z O 0,Z O 0,Z O 0,Z O 0,Z O 0,Z O 0,Zl none 0 0])] []) (HL2.out.put 2 0 _ rfl)
    have r0:=HLf.out.at 2 0 (v:=Zs ⟨#[]⟩) rfl rfl
    have r1:=HLf.out.at 2 1 (v:=Z O 0) rfl rfl
    have r2:=HLf.out.at 2 2 (v:=Z O 0) rfl rfl
    have r3:=HLf.out.at 2 3 (v:=Z O 0) rfl rfl
    have r4:=HLf.out.at 2 4 (v:=Z O 0) rfl rfl
    have r5:=HLf.out.at 2 5 (v:=Z O 0) rfl rfl
    have r6:=HLf.out.at 2 6 (v:=Z O 0) rfl rfl
    have r7:=HLf.out.at 2 7 (v:=Zl none 0 0) rfl rfl
    refine bodyPost_ret (v:=.tuple #[.agg #[Zs ⟨#[]⟩,Z O 0,Z O 0,Z O 0,Z O 0,Z O 0,Z O 0,Zl none 0 0],Z O 6]) (by simp [results,Try.results50,go_sem,r0,r1,r2,r3,r4,r5,r6,r7]) rfl ?_
    exact⟨⟨#[]⟩,0,0,0,0,0,0,none,0,0,by rw [HE.out],HLf.out.low,fun h=>by first | exact absurd (HE.out.symm.trans h) HNZ.out | (rw [HE.out]at h;cases h)⟩
  | some i =>
    obtain⟨p,hp,hpc⟩:=ixOf_some hi
    obtain⟨hat2,hil⟩:=ix_at hi
    have HE:=Zh (p:=stackErr R code false=0) (by rw [HSE.out,← HMAP.out,if_pos (by rw [hat2];exact hil)])
    obtain⟨g,cap,hv,hg,hcs⟩:=HST4.out.row hp
    injection hv with e1 e2 e3
    subst e1 e3
    have hfrom:=HST4.out.froms p (List.mem_of_getElem? hp)
    obtain⟨fa,fn,fc,hfv⟩:=row_slice hfrom
    have hxx:=row_map hp
    obtain⟨⟨s,⟨dl,dh⟩,⟨wl,wh⟩,pil,boi,src⟩,pv⟩:=p
    simp only at hfv hpc hfrom hxx
    subst hfv
    have hX:R.1.stacks[at_ R.1.stacks code]? = some ⟨s,⟨dl,dh⟩,⟨wl,wh⟩,pil,boi,src⟩:=by rw [← HMAP.out,hat2];exact hxx
    have HX:=Zh hX
    have HSS:=Zh (show ∃ i≤12,SmallStk i (⟨s,⟨dl,dh⟩,⟨wl,wh⟩,pil,boi,src⟩:Stk Code)from by
     obtain⟨q,hq,hs⟩:=HSM.out
     exact⟨q,hq,hs.stacks _ (List.mem_of_getElem? hX)⟩)
    have hi8:i<8:=by have:=HST4.out.few;simp at hil;omega
    have hil2:i<aN.length:=by simpa using hil
    rw [show ixInt (some i)=(i:Int)from rfl]
    subst e2
    have c0:w4.cell? ⟨g,i*8,none⟩=some (Zs s):=hcs 0 (by omega)
    have c1:w4.cell? ⟨g,i*8+1,none⟩=some (Z O dl):=hcs 1 (by omega)
    have c2:w4.cell? ⟨g,i*8+2,none⟩=some (Z O dh):=hcs 2 (by omega)
    have c3:w4.cell? ⟨g,i*8+3,none⟩=some (Z O wl):=hcs 3 (by omega)
    have c4:w4.cell? ⟨g,i*8+4,none⟩=some (Z O wh):=hcs 4 (by omega)
    have c5:w4.cell? ⟨g,i*8+5,none⟩=some (Z O pil):=hcs 5 (by omega)
    have c6:w4.cell? ⟨g,i*8+6,none⟩=some (Z O boi):=hcs 6 (by omega)
    have c7:w4.cell? ⟨g,i*8+7,none⟩=some (Zl fa fn fc):=hcs 7 (by omega)
    have HFR:=Zh hfrom
    have hm8:aN.length≤8:=HST4.out.few
    obtain⟨q,hq⟩:∃ m,m=aN.length:=⟨_,rfl⟩
    rw [← hq]at hil2 hm8 ⊢
    have hiI:(i:Int)<(q:Int):=by omega
    clear hcs hp hpc hi hat2 hil hxx hfrom hX hq
    go_wp2_with (first
     | ((with_reducible refine at_store 49 (.tmp 6) (.tmp 30) ?_);go_must (refine Zw rfl 49 (.tmp 6) (.tmp 30) rfl gr 0 #[Zs s,Z O dl,Z O dh,Z O wl,Z O wh,Z O pil,Z O boi,Zl fa fn fc] rfl rfl (HL2.out.there 2 (o:=0) (n:=8) rfl (Zn rfl)) size_stackK (by simp [Value.oneCell']) ?_)))
    have HLf:=Zh (p:=Locs w (w4.setCells gr 0 [Zs s,Z O dl,Z O dh,Z O wl,Z O wh,Z O pil,Z O boi,Zl fa fn fc]) [(gy,24,[Z O bef,Z O aft,Zl a m c]),(gc,9,[Zs code]),(gr,49,[Zs s,Z O dl,Z O dh,Z O wl,Z O wh,Z O pil,Z O boi,Zl fa fn fc])] []) (HL2.out.put 2 0 _ rfl)
    have r0:=HLf.out.at 2 0 (v:=Zs s) rfl rfl
    have r1:=HLf.out.at 2 1 (v:=Z O dl) rfl rfl
    have r2:=HLf.out.at 2 2 (v:=Z O dh) rfl rfl
    have r3:=HLf.out.at 2 3 (v:=Z O wl) rfl rfl
    have r4:=HLf.out.at 2 4 (v:=Z O wh) rfl rfl
    have r5:=HLf.out.at 2 5 (v:=Z O pil) rfl rfl
    have r6:=HLf.out.at 2 6 (v:=Z O boi) rfl rfl
    have r7:=HLf.out.at 2 7 (v:=Zl fa fn fc) rfl rfl
    refine bodyPost_ret (v:=.tuple #[.agg #[Zs s,Z O dl,Z O dh,Z O wl,Z O wh,Z O pil,Z O boi,Zl fa fn fc],Z O 0]) (by simp [results,Try.results50,go_sem,r0,r1,r2,r3,r4,r5,r6,r7]) rfl ?_
    refine⟨s,dl,dh,wl,wh,pil,boi,fa,fn,fc,by rw [HE.out],HLf.out.low,fun _=>⟨src,HX.out,HSS.out,?_⟩⟩
    exact row_same HFR.out (fun k hk=>heap_setCells w4 gr (fun e=>(HL2.out.blk 2 rfl).notRow HFR.out (by decide) (by rw [hk,e])) _ _)
 ·skip
  have d1:(ser == 0)=false:=by simpa using h1
  have d2:(ser != 0)=true:=by simpa using h1
  have HE:=Zh (p:=stackErr R code false=ser) (by rw [stackErr_bad (by rw [← HSER.out];exact h1),← HSER.out])
  have HNZ:=Zh h1
  clear h1 HSER HX HST hmf
  go_wp2_with (first
   | ((with_reducible refine at_store 49 (.tmp 6) (.tmp 19) ?_);go_must (refine Zw rfl 49 (.tmp 6) (.tmp 19) rfl gr 0 #[Zs ⟨#[]⟩,Z O 0,Z O 0,Z O 0,Z O 0,Z O 0,Z O 0,Zl none 0 0] rfl rfl (HL1.out.there 2 (o:=0) (n:=8) rfl (Zn rfl)) size_stackK (by simp [Value.oneCell']) ?_)))
  have HLf:=Zh (p:=Locs w (w3.setCells gr 0 [Zs ⟨#[]⟩,Z O 0,Z O 0,Z O 0,Z O 0,Z O 0,Z O 0,Zl none 0 0]) [(gy,24,[Z O bef,Z O aft,Zl a m c]),(gc,9,[Zs code]),(gr,49,[Zs ⟨#[]⟩,Z O 0,Z O 0,Z O 0,Z O 0,Z O 0,Z O 0,Zl none 0 0])] []) (HL1.out.put 2 0 _ rfl)
  have r0:=HLf.out.at 2 0 (v:=Zs ⟨#[]⟩) rfl rfl
  have r1:=HLf.out.at 2 1 (v:=Z O 0) rfl rfl
  have r2:=HLf.out.at 2 2 (v:=Z O 0) rfl rfl
  have r3:=HLf.out.at 2 3 (v:=Z O 0) rfl rfl
  have r4:=HLf.out.at 2 4 (v:=Z O 0) rfl rfl
  have r5:=HLf.out.at 2 5 (v:=Z O 0) rfl rfl
  have r6:=HLf.out.at 2 6 (v:=Z O 0) rfl rfl
  have r7:=HLf.out.at 2 7 (v:=Zl none 0 0) rfl rfl
  refine bodyPost_ret (v:=.tuple #[.agg #[Zs ⟨#[]⟩,Z O 0,Z O 0,Z O 0,Z O 0,Z O 0,Z O 0,Zl none 0 0],Z O ser]) (by simp [results,Try.results50,go_sem,r0,r1,r2,r3,r4,r5,r6,r7]) rfl ?_
  exact⟨⟨#[]⟩,0,0,0,0,0,0,none,0,0,by rw [HE.out],HLf.out.low,fun h=>by first | exact absurd (HE.out.symm.trans h) HNZ.out | (rw [HE.out]at h;cases h)⟩
theorem rstack_any (bef aft:Int)(v:Value)(ds:List (Deed Code))(n:Int)(code:Code)(value:Bool)(w:World)(h:Held w.heap.size w 8 deedCells v ds)(hsz:∀ d ∈ ds,d.stack.size≤maxLen∧d.other.size≤maxLen)(hg:greatB ds=false) :
  Calls Try.prog 55 #[.agg #[Z O bef,Z O aft,v],Z O n,Zs code,.bool value] w (StackAny w (followAny bef aft ds n) code (stackErr (followAny bef aft ds n) code value)):=by
 have HC:=Zh (fun(W:World) (hW:Below w.heap.size w W)=>rfollow_any bef aft v ds n W ((h.below hW).mono hW.size) hsz hg)
 obtain⟨a,c,rfl,_,_⟩:=h.slice
 obtain⟨m,hm⟩:∃ m,m=ds.length:=⟨_,rfl⟩
 rw [← hm]at HC ⊢
 obtain⟨R,hR⟩:∃ R,R=followAny bef aft ds n:=⟨_,rfl⟩
 rw [← hR]at HC ⊢
 clear h hsz hg hm
 have HL0:=Zh (p:=Locs w ((w.alloc (.cells #[Z O bef,Z O aft,Zl a m c] 24)).alloc (.cells #[Zs ⟨#[]⟩,Z O 0,Z O 0,Z O 0,Z O 0,Z O 0,Z O 0,Zl none 0 0] 49)) [(w.heap.size,24,[Z O bef,Z O aft,Zl a m c]),(w.heap.size+1,49,[Zs ⟨#[]⟩,Z O 0,Z O 0,Z O 0,Z O 0,Z O 0,Z O 0,Zl none 0 0])] []) (((Locs.start w).alloc 24 [Z O bef,Z O aft,Zl a m c] rfl).alloc 49 [Zs ⟨#[]⟩,Z O 0,Z O 0,Z O 0,Z O 0,Z O 0,Z O 0,Zl none 0 0] (World.size_alloc _ _))
 clear hR
 go_enter Try.func55,Try.ntmps55
 go_upto_region 2 with(first
  | (go_at_call 28;refine(HC.out _ HL0.out.low).mono ?_;rintro e w2 ⟨rows1,tv1,acc1,k,f,er,hr,hsm,rfl,hb,hst⟩;obtain⟨t1a,t1n,t1c,rfl⟩:=row_slice hst.things;have HR:=Zh hr;have HSM:=Zh hsm;have HST:=Zh hst;clear hr hsm;obtain⟨⟨aA,aB⟩,⟨aC,aD⟩,⟨aE,aF⟩,⟨aG,aH⟩,⟨aI,aJ⟩,⟨aK,aL⟩⟩:=acc1;have HL2:=Zh (HL0.out.below hb);have HO:=Zh (p:=(#[Zl t1a t1n t1c,Z O aA,Z O aB,Z O aC,Z O aD,Z O aE,Z O aF,Z O aG,Z O aH,Z O aI,Z O aJ,Z O aK,Z O aL]:Array Value).all (·.oneCell')=true) (by simp [Value.oneCell']);clear hb hst)
  | ((with_reducible refine at_store 36 (.tmp 10) (.tmp 19) ?_);go_must (refine Zw rfl 36 (.tmp 10) (.tmp 19) rfl w2.heap.size 0 #[Zl t1a t1n t1c,Z O aA,Z O aB,Z O aC,Z O aD,Z O aE,Z O aF,Z O aG,Z O aH,Z O aI,Z O aJ,Z O aK,Z O aL] rfl rfl ((Blk.new w2 36 #[Zl none 0 0,Z O 0,Z O 0,Z O 0,Z O 0,Z O 0,Z O 0,Z O 0,Z O 0,Z O 0,Z O 0,Z O 0,Z O 0]).there (o:=0) (n:=13) (Zn rfl)) size_standing (HO.out) ?_)))
 clear HL0 HC
 have hr:=HR.out
 clear HR
 subst hr
 have HST2:=Zh ((HST.out.same (fun k hk=>Below.heap_alloc w2 (.cells #[Zl none 0 0,Z O 0,Z O 0,Z O 0,Z O 0,Z O 0,Z O 0,Z O 0,Z O 0,Z O 0,Z O 0,Z O 0,Z O 0] 36) k hk)).setCells (Blk.new w2 36 #[Zl none 0 0,Z O 0,Z O 0,Z O 0,Z O 0,Z O 0,Z O 0,Z O 0,Z O 0,Z O 0,Z O 0,Z O 0,Z O 0]) (by decide) (by decide) 0 [Zl t1a t1n t1c,Z O aA,Z O aB,Z O aC,Z O aD,Z O aE,Z O aF,Z O aG,Z O aH,Z O aI,Z O aJ,Z O aK,Z O aL])
 clear HST
 generalize w.heap.size+1=gr at HL2 ⊢
 obtain⟨gy,hgy⟩:∃ g,g=w.heap.size:=⟨_,rfl⟩
 rw [← hgy]at HL2 ⊢
 clear hgy
 have HL3:=Zh (p:=Locs w ((w2.alloc (.cells #[Zl none 0 0,Z O 0,Z O 0,Z O 0,Z O 0,Z O 0,Z O 0,Z O 0,Z O 0,Z O 0,Z O 0,Z O 0,Z O 0] 36)).setCells w2.heap.size 0 [Zl t1a t1n t1c,Z O aA,Z O aB,Z O aC,Z O aD,Z O aE,Z O aF,Z O aG,Z O aH,Z O aI,Z O aJ,Z O aK,Z O aL]) [(gy,24,[Z O bef,Z O aft,Zl a m c]),(gr,49,[Zs ⟨#[]⟩,Z O 0,Z O 0,Z O 0,Z O 0,Z O 0,Z O 0,Zl none 0 0]),(w2.heap.size,36,[Zl t1a t1n t1c,Z O aA,Z O aB,Z O aC,Z O aD,Z O aE,Z O aF,Z O aG,Z O aH,Z O aI,Z O aJ,Z O aK,Z O aL])] []) ((HL2.out.alloc 36 [Zl none 0 0,Z O 0,Z O 0,Z O 0,Z O 0,Z O 0,Z O 0,Z O 0,Z O 0,Z O 0,Z O 0,Z O 0,Z O 0] rfl).setLoc 2 [] [Zl none 0 0,Z O 0,Z O 0,Z O 0,Z O 0,Z O 0,Z O 0,Z O 0,Z O 0,Z O 0,Z O 0,Z O 0,Z O 0] [] [Zl t1a t1n t1c,Z O aA,Z O aB,Z O aC,Z O aD,Z O aE,Z O aF,Z O aG,Z O aH,Z O aI,Z O aJ,Z O aK,Z O aL] rfl rfl)
 clear HL2
 generalize((w2.alloc (.cells #[Zl none 0 0,Z O 0,Z O 0,Z O 0,Z O 0,Z O 0,Z O 0,Z O 0,Z O 0,Z O 0,Z O 0,Z O 0,Z O 0] 36)).setCells w2.heap.size 0 [Zl t1a t1n t1c,Z O aA,Z O aB,Z O aC,Z O aD,Z O aE,Z O aF,Z O aG,Z O aH,Z O aI,Z O aJ,Z O aK,Z O aL])=w3 at HL3 HST2 ⊢
 generalize w2.heap.size=gs at HL3 ⊢
 try simp only [Act.put]
 obtain⟨ki,hki⟩:∃ x,x=rxInt rows1 code:=⟨_,rfl⟩
 have HKI:=Zh hki
 have HAT:=Zh (show ∀ W,Below w3.heap.size w3 W→Calls Try.prog 68 #[Zl t1a t1n t1c,Zs code] W fun e w'=>e=.returned (Z O ki)∧Below W.heap.size W w' from fun W hW=>by
  rw [hki]
  exact rat_calls _ rows1 code W (HST2.out.below hW).things (by have:=HST2.out.few;omega))
 clear hki
 have s0:=HL3.out.at 2 0 (v:=Zl t1a t1n t1c) rfl rfl
 by_cases h1:er=0
 ·skip
  subst h1
  cases value with
  | true =>
    have HE:=Zh (p:=stackErr (stOf rows1 (⟨⟨aA,aB⟩,⟨aC,aD⟩,⟨aE,aF⟩,⟨aG,aH⟩,⟨aI,aJ⟩,⟨aK,aL⟩⟩:Yd.Acc),k,f,0) code true=1) (by simp [stackErr])
    go_wp2_with (first
     | (go_at_call 68;refine(HAT.out _ (Below.refl _ _)).mono ?_;rintro e w4 ⟨rfl,hb⟩;have HL4:=Zh (HL3.out.below hb);clear hb)
     | ((with_reducible refine at_store 49 (.tmp 8) (.tmp 40) ?_);go_must (refine Zw rfl 49 (.tmp 8) (.tmp 40) rfl gr 0 #[Zs ⟨#[]⟩,Z O 0,Z O 0,Z O 0,Z O 0,Z O 0,Z O 0,Zl none 0 0] rfl rfl (HL4.out.there 1 (o:=0) (n:=8) rfl (Zn rfl)) size_stackK (by simp [Value.oneCell']) ?_)))
    have HLf:=Zh (p:=Locs w (w4.setCells gr 0 [Zs ⟨#[]⟩,Z O 0,Z O 0,Z O 0,Z O 0,Z O 0,Z O 0,Zl none 0 0]) [(gy,24,[Z O bef,Z O aft,Zl a m c]),(gr,49,[Zs ⟨#[]⟩,Z O 0,Z O 0,Z O 0,Z O 0,Z O 0,Z O 0,Zl none 0 0]),(gs,36,[Zl t1a t1n t1c,Z O aA,Z O aB,Z O aC,Z O aD,Z O aE,Z O aF,Z O aG,Z O aH,Z O aI,Z O aJ,Z O aK,Z O aL])] []) (HL4.out.put 1 0 _ rfl)
    have r0:=HLf.out.at 1 0 (v:=Zs ⟨#[]⟩) rfl rfl
    have r1:=HLf.out.at 1 1 (v:=Z O 0) rfl rfl
    have r2:=HLf.out.at 1 2 (v:=Z O 0) rfl rfl
    have r3:=HLf.out.at 1 3 (v:=Z O 0) rfl rfl
    have r4:=HLf.out.at 1 4 (v:=Z O 0) rfl rfl
    have r5:=HLf.out.at 1 5 (v:=Z O 0) rfl rfl
    have r6:=HLf.out.at 1 6 (v:=Z O 0) rfl rfl
    have r7:=HLf.out.at 1 7 (v:=Zl none 0 0) rfl rfl
    refine bodyPost_ret (v:=.tuple #[.agg #[Zs ⟨#[]⟩,Z O 0,Z O 0,Z O 0,Z O 0,Z O 0,Z O 0,Zl none 0 0],Z O 1]) (by simp [results,Try.results55,go_sem,r0,r1,r2,r3,r4,r5,r6,r7]) rfl ?_
    exact⟨⟨#[]⟩,0,0,0,0,0,0,none,0,0,by rw [HE.out],HLf.out.low,fun h=>by first | exact absurd (HE.out.symm.trans h) HNZ.out | (rw [HE.out]at h;cases h)⟩
  | false =>
    by_cases h2:f=0
    ·skip
     subst h2
     rcases rx_cases rows1 code with⟨i,p,hix,hp,hat,hil,hpc⟩ | ⟨hix,hat⟩
     ·skip
      have HE:=Zh (show stackErr (stOf rows1 (⟨⟨aA,aB⟩,⟨aC,aD⟩,⟨aE,aF⟩,⟨aG,aH⟩,⟨aI,aJ⟩,⟨aK,aL⟩⟩:Yd.Acc),k,0,0) code false=0 from by
       unfold stackErr
       rw [if_neg (by simp),if_neg (by simp),if_neg (by simp),if_pos (by simp only [stOf];rw [hat,List.length_map];exact hil)])
      have hki2:ki=(i:Int):=HKI.out.trans hix
      subst hki2
      obtain⟨g,cap,hv,hg,hcs⟩:=HST2.out.row hp
      injection hv with e1 e2 e3
      subst e1 e3
      have hfrom:=HST2.out.froms p (List.mem_of_getElem? hp)
      obtain⟨fa,fn,fc,hfv⟩:=row_slice hfrom
      have hxx:=row_map hp
      obtain⟨⟨s,⟨dl,dh⟩,⟨wl,wh⟩,pil,boi,src⟩,pv⟩:=p
      simp only at hfv hpc hfrom hxx
      subst hfv
      have hX:(stOf rows1 (⟨⟨aA,aB⟩,⟨aC,aD⟩,⟨aE,aF⟩,⟨aG,aH⟩,⟨aI,aJ⟩,⟨aK,aL⟩⟩:Yd.Acc)).stacks[at_ (stOf rows1 (⟨⟨aA,aB⟩,⟨aC,aD⟩,⟨aE,aF⟩,⟨aG,aH⟩,⟨aI,aJ⟩,⟨aK,aL⟩⟩:Yd.Acc)).stacks code]? = some ⟨s,⟨dl,dh⟩,⟨wl,wh⟩,pil,boi,src⟩:=by simp only [stOf];rw [hat];exact hxx
      have HX:=Zh hX
      have HSS:=Zh (show ∃ i≤12,SmallStk i (⟨s,⟨dl,dh⟩,⟨wl,wh⟩,pil,boi,src⟩:Stk Code)from by
       obtain⟨q,hq,hs⟩:=HSM.out
       exact⟨q,hq,hs.stacks _ (List.mem_of_getElem? hX)⟩)
      have hi8:i<8:=by have:=HST2.out.few;omega
      subst e2
      have hm8:rows1.length≤8:=HST2.out.few
      obtain⟨q,hq⟩:∃ m,m=rows1.length:=⟨_,rfl⟩
      rw [← hq]at hil hm8 HAT HL3 s0 ⊢
      have hiI:(i:Int)<(q:Int):=by omega
      have dk:decide ((i:Int)<0)=false:=by simp
      have HFR:=Zh hfrom
      have HGL:=Zh hg
      have HCS:=Zh hcs
      clear hcs hp hpc hat hxx hfrom hX hq hix hg
      go_wp2_with (first
       | (go_at_call 68;refine(HAT.out _ (Below.refl _ _)).mono ?_;rintro e w4 ⟨rfl,hb⟩;have HL4:=Zh (HL3.out.below hb);have s4:=HL4.out.at 2 0 (v:=Zl (some ⟨g,0,none⟩) q t1c) rfl rfl;have c0:w4.cell? ⟨g,i*8,none⟩=some (Zs s):=(hb.cell (p:=⟨g,i*8,none⟩) HGL.out).trans (HCS.out 0 (by omega));have c1:w4.cell? ⟨g,i*8+1,none⟩=some (Z O dl):=(hb.cell (p:=⟨g,i*8+1,none⟩) HGL.out).trans (HCS.out 1 (by omega));have c2:w4.cell? ⟨g,i*8+2,none⟩=some (Z O dh):=(hb.cell (p:=⟨g,i*8+2,none⟩) HGL.out).trans (HCS.out 2 (by omega));have c3:w4.cell? ⟨g,i*8+3,none⟩=some (Z O wl):=(hb.cell (p:=⟨g,i*8+3,none⟩) HGL.out).trans (HCS.out 3 (by omega));have c4:w4.cell? ⟨g,i*8+4,none⟩=some (Z O wh):=(hb.cell (p:=⟨g,i*8+4,none⟩) HGL.out).trans (HCS.out 4 (by omega));have c5:w4.cell? ⟨g,i*8+5,none⟩=some (Z O pil):=(hb.cell (p:=⟨g,i*8+5,none⟩) HGL.out).trans (HCS.out 5 (by omega));have c6:w4.cell? ⟨g,i*8+6,none⟩=some (Z O boi):=(hb.cell (p:=⟨g,i*8+6,none⟩) HGL.out).trans (HCS.out 6 (by omega));have c7:w4.cell? ⟨g,i*8+7,none⟩=some (Zl fa fn fc):=(hb.cell (p:=⟨g,i*8+7,none⟩) HGL.out).trans (HCS.out 7 (by omega));have HFR4:=Zh (row_same HFR.out (fun g' hg'=>hb.block g' (row_lt HFR.out hg')));clear hb)
       | ((with_reducible refine at_store 49 (.tmp 8) (.tmp 46) ?_);go_must (refine Zw rfl 49 (.tmp 8) (.tmp 46) rfl gr 0 #[Zs s,Z O dl,Z O dh,Z O wl,Z O wh,Z O pil,Z O boi,Zl fa fn fc] rfl rfl (HL4.out.there 1 (o:=0) (n:=8) rfl (Zn rfl)) size_stackK (by simp [Value.oneCell']) ?_)))
      have HLf:=Zh (p:=Locs w (w4.setCells gr 0 [Zs s,Z O dl,Z O dh,Z O wl,Z O wh,Z O pil,Z O boi,Zl fa fn fc]) [(gy,24,[Z O bef,Z O aft,Zl a m c]),(gr,49,[Zs s,Z O dl,Z O dh,Z O wl,Z O wh,Z O pil,Z O boi,Zl fa fn fc]),(gs,36,[Zl (some ⟨g,0,none⟩) q t1c,Z O aA,Z O aB,Z O aC,Z O aD,Z O aE,Z O aF,Z O aG,Z O aH,Z O aI,Z O aJ,Z O aK,Z O aL])] []) (HL4.out.put 1 0 _ rfl)
      have r0:=HLf.out.at 1 0 (v:=Zs s) rfl rfl
      have r1:=HLf.out.at 1 1 (v:=Z O dl) rfl rfl
      have r2:=HLf.out.at 1 2 (v:=Z O dh) rfl rfl
      have r3:=HLf.out.at 1 3 (v:=Z O wl) rfl rfl
      have r4:=HLf.out.at 1 4 (v:=Z O wh) rfl rfl
      have r5:=HLf.out.at 1 5 (v:=Z O pil) rfl rfl
      have r6:=HLf.out.at 1 6 (v:=Z O boi) rfl rfl
      have r7:=HLf.out.at 1 7 (v:=Zl fa fn fc) rfl rfl
      refine bodyPost_ret (v:=.tuple #[.agg #[Zs s,Z O dl,Z O dh,Z O wl,Z O wh,Z O pil,Z O boi,Zl fa fn fc],Z O 0]) (by simp [results,Try.results55,go_sem,r0,r1,r2,r3,r4,r5,r6,r7]) rfl ?_
      refine⟨s,dl,dh,wl,wh,pil,boi,fa,fn,fc,by rw [HE.out],HLf.out.low,fun _=>⟨src,HX.out,HSS.out,?_⟩⟩
      exact row_same HFR4.out (fun k hk=>heap_setCells w4 gr (fun e=>(HL4.out.blk 1 rfl).notRow HFR4.out (by decide) (by rw [hk,e])) _ _)
     ·skip
      have HE:=Zh (show stackErr (stOf rows1 (⟨⟨aA,aB⟩,⟨aC,aD⟩,⟨aE,aF⟩,⟨aG,aH⟩,⟨aI,aJ⟩,⟨aK,aL⟩⟩:Yd.Acc),k,0,0) code false=6 from by
       unfold stackErr
       rw [if_neg (by simp),if_neg (by simp),if_neg (by simp),if_neg (by simp only [stOf];rw [List.length_map];exact hat)])
      have hki2:ki = -1:=HKI.out.trans hix
      subst hki2
      clear hix hat
      go_wp2_with (first
       | (go_at_call 68;refine(HAT.out _ (Below.refl _ _)).mono ?_;rintro e w4 ⟨rfl,hb⟩;have HL4:=Zh (HL3.out.below hb);clear hb)
       | ((with_reducible refine at_store 49 (.tmp 8) (.tmp 40) ?_);go_must (refine Zw rfl 49 (.tmp 8) (.tmp 40) rfl gr 0 #[Zs ⟨#[]⟩,Z O 0,Z O 0,Z O 0,Z O 0,Z O 0,Z O 0,Zl none 0 0] rfl rfl (HL4.out.there 1 (o:=0) (n:=8) rfl (Zn rfl)) size_stackK (by simp [Value.oneCell']) ?_)))
      have HLf:=Zh (p:=Locs w (w4.setCells gr 0 [Zs ⟨#[]⟩,Z O 0,Z O 0,Z O 0,Z O 0,Z O 0,Z O 0,Zl none 0 0]) [(gy,24,[Z O bef,Z O aft,Zl a m c]),(gr,49,[Zs ⟨#[]⟩,Z O 0,Z O 0,Z O 0,Z O 0,Z O 0,Z O 0,Zl none 0 0]),(gs,36,[Zl t1a t1n t1c,Z O aA,Z O aB,Z O aC,Z O aD,Z O aE,Z O aF,Z O aG,Z O aH,Z O aI,Z O aJ,Z O aK,Z O aL])] []) (HL4.out.put 1 0 _ rfl)
      have r0:=HLf.out.at 1 0 (v:=Zs ⟨#[]⟩) rfl rfl
      have r1:=HLf.out.at 1 1 (v:=Z O 0) rfl rfl
      have r2:=HLf.out.at 1 2 (v:=Z O 0) rfl rfl
      have r3:=HLf.out.at 1 3 (v:=Z O 0) rfl rfl
      have r4:=HLf.out.at 1 4 (v:=Z O 0) rfl rfl
      have r5:=HLf.out.at 1 5 (v:=Z O 0) rfl rfl
      have r6:=HLf.out.at 1 6 (v:=Z O 0) rfl rfl
      have r7:=HLf.out.at 1 7 (v:=Zl none 0 0) rfl rfl
      refine bodyPost_ret (v:=.tuple #[.agg #[Zs ⟨#[]⟩,Z O 0,Z O 0,Z O 0,Z O 0,Z O 0,Z O 0,Zl none 0 0],Z O 6]) (by simp [results,Try.results55,go_sem,r0,r1,r2,r3,r4,r5,r6,r7]) rfl ?_
      exact⟨⟨#[]⟩,0,0,0,0,0,0,none,0,0,by rw [HE.out],HLf.out.low,fun h=>by first | exact absurd (HE.out.symm.trans h) HNZ.out | (rw [HE.out]at h;cases h)⟩
    ·skip
     have d1:(f == 0)=false:=by simpa using h2
     have d2:(f != 0)=true:=by simpa using h2
     have HE:=Zh (p:=stackErr (stOf rows1 (⟨⟨aA,aB⟩,⟨aC,aD⟩,⟨aE,aF⟩,⟨aG,aH⟩,⟨aI,aJ⟩,⟨aK,aL⟩⟩:Yd.Acc),k,f,0) code false=9) (by simp [stackErr,h2])
     clear h2
     go_wp2_with (first
      | (go_at_call 68;refine(HAT.out _ (Below.refl _ _)).mono ?_;rintro e w4 ⟨rfl,hb⟩;have HL4:=Zh (HL3.out.below hb);clear hb)
      | ((with_reducible refine at_store 49 (.tmp 8) (.tmp 40) ?_);go_must (refine Zw rfl 49 (.tmp 8) (.tmp 40) rfl gr 0 #[Zs ⟨#[]⟩,Z O 0,Z O 0,Z O 0,Z O 0,Z O 0,Z O 0,Zl none 0 0] rfl rfl (HL4.out.there 1 (o:=0) (n:=8) rfl (Zn rfl)) size_stackK (by simp [Value.oneCell']) ?_)))
     have HLf:=Zh (p:=Locs w (w4.setCells gr 0 [Zs ⟨#[]⟩,Z O 0,Z O 0,Z O 0,Z O 0,Z O 0,Z O 0,Zl none 0 0]) [(gy,24,[Z O bef,Z O aft,Zl a m c]),(gr,49,[Zs ⟨#[]⟩,Z O 0,Z O 0,Z O 0,Z O 0,Z O 0,Z O 0,Zl none 0 0]),(gs,36,[Zl t1a t1n t1c,Z O aA,Z O aB,Z O aC,Z O aD,Z O aE,Z O aF,Z O aG,Z O aH,Z O aI,Z O aJ,Z O aK,Z O aL])] []) (HL4.out.put 1 0 _ rfl)
     have r0:=HLf.out.at 1 0 (v:=Zs ⟨#[]⟩) rfl rfl
     have r1:=HLf.out.at 1 1 (v:=Z O 0) rfl rfl
     have r2:=HLf.out.at 1 2 (v:=Z O 0) rfl rfl
     have r3:=HLf.out.at 1 3 (v:=Z O 0) rfl rfl
     have r4:=HLf.out.at 1 4 (v:=Z O 0) rfl rfl
     have r5:=HLf.out.at 1 5 (v:=Z O 0) rfl rfl
     have r6:=HLf.out.at 1 6 (v:=Z O 0) rfl rfl
     have r7:=HLf.out.at 1 7 (v:=Zl none 0 0) rfl rfl
     refine bodyPost_ret (v:=.tuple #[.agg #[Zs ⟨#[]⟩,Z O 0,Z O 0,Z O 0,Z O 0,Z O 0,Z O 0,Zl none 0 0],Z O 9]) (by simp [results,Try.results55,go_sem,r0,r1,r2,r3,r4,r5,r6,r7]) rfl ?_
     exact⟨⟨#[]⟩,0,0,0,0,0,0,none,0,0,by rw [HE.out],HLf.out.low,fun h=>by first | exact absurd (HE.out.symm.trans h) HNZ.out | (rw [HE.out]at h;cases h)⟩
 ·skip
  have d1:(er == 0)=false:=by simpa using h1
  have d2:(er != 0)=true:=by simpa using h1
  have HE:=Zh (p:=stackErr (stOf rows1 (⟨⟨aA,aB⟩,⟨aC,aD⟩,⟨aE,aF⟩,⟨aG,aH⟩,⟨aI,aJ⟩,⟨aK,aL⟩⟩:Yd.Acc),k,f,er) code value=er) (by simp [stackErr,h1])
  have HNZ:=Zh h1
  clear h1
  go_wp2_with (first
   | (go_at_call 68;refine(HAT.out _ (Below.refl _ _)).mono ?_;rintro e w4 ⟨rfl,hb⟩;have HL4:=Zh (HL3.out.below hb);clear hb)
   | ((with_reducible refine at_store 49 (.tmp 8) (.tmp 40) ?_);go_must (refine Zw rfl 49 (.tmp 8) (.tmp 40) rfl gr 0 #[Zs ⟨#[]⟩,Z O 0,Z O 0,Z O 0,Z O 0,Z O 0,Z O 0,Zl none 0 0] rfl rfl (HL4.out.there 1 (o:=0) (n:=8) rfl (Zn rfl)) size_stackK (by simp [Value.oneCell']) ?_)))
  have HLf:=Zh (p:=Locs w (w4.setCells gr 0 [Zs ⟨#[]⟩,Z O 0,Z O 0,Z O 0,Z O 0,Z O 0,Z O 0,Zl none 0 0]) [(gy,24,[Z O bef,Z O aft,Zl a m c]),(gr,49,[Zs ⟨#[]⟩,Z O 0,Z O 0,Z O 0,Z O 0,Z O 0,Z O 0,Zl none 0 0]),(gs,36,[Zl t1a t1n t1c,Z O aA,Z O aB,Z O aC,Z O aD,Z O aE,Z O aF,Z O aG,Z O aH,Z O aI,Z O aJ,Z O aK,Z O aL])] []) (HL4.out.put 1 0 _ rfl)
  have r0:=HLf.out.at 1 0 (v:=Zs ⟨#[]⟩) rfl rfl
  have r1:=HLf.out.at 1 1 (v:=Z O 0) rfl rfl
  have r2:=HLf.out.at 1 2 (v:=Z O 0) rfl rfl
  have r3:=HLf.out.at 1 3 (v:=Z O 0) rfl rfl
  have r4:=HLf.out.at 1 4 (v:=Z O 0) rfl rfl
  have r5:=HLf.out.at 1 5 (v:=Z O 0) rfl rfl
  have r6:=HLf.out.at 1 6 (v:=Z O 0) rfl rfl
  have r7:=HLf.out.at 1 7 (v:=Zl none 0 0) rfl rfl
  refine bodyPost_ret (v:=.tuple #[.agg #[Zs ⟨#[]⟩,Z O 0,Z O 0,Z O 0,Z O 0,Z O 0,Z O 0,Zl none 0 0],Z O er]) (by simp [results,Try.results55,go_sem,r0,r1,r2,r3,r4,r5,r6,r7]) rfl ?_
  exact⟨⟨#[]⟩,0,0,0,0,0,0,none,0,0,by rw [HE.out],HLf.out.low,fun h=>by first | exact absurd (HE.out.symm.trans h) HNZ.out | (rw [HE.out]at h;cases h)⟩
end Go.Proofs.Ytgekekhbhkgekaa
