/- The document's fault of a deed. -/
import Derived.Test.YtgekekhbhkgekaaRYSameStanding
import Derived.Test.YtgekekhbhkgekaaRYLocs
namespace Go.Proofs.Ytgekekhbhkgekaa
open Go Go.RowKit Go.Shelf Yd
open Go.Value renaming int→Z,string→Zs,slice→Zl
open Go.IntKind renaming i64→O
open Go.Lib renaming hid→Zh
open _root_.List renaming setIfInBounds_toArray→Za,set_cons_succ→Zb,set_cons_zero→Zc
open _root_.Nat renaming le_of_ble_eq_true→Zn
open Go renaming wpList_store_mid→Zw,cell_regrown→Zg,below_regrown→Zk
set_option maxRecDepth 100000
set_option maxHeartbeats 16000000
set_option linter.unusedSimpArgs false
theorem rx_cases (l:List SRow)(c:Code):(∃(k:Nat) (p:SRow),rxInt l c=(k:Int)∧l[k]? = some p∧at_ (l.map (·.1)) c=k∧k<l.length∧p.1.code=c)∨(rxInt l c = -1∧¬ at_ (l.map (·.1)) c<l.length):=by
 unfold rxInt
 cases h:ixOf l c with
 | none=>exact .inr ⟨rfl,by have:=ix_none h;rwa [List.length_map]at this⟩
 | some k =>
   obtain⟨h1,h2⟩:=ix_at h
   rw [List.length_map]at h2
   obtain⟨h3,h4,_⟩:=List.findIdx?_eq_some_iff_getElem.1 h
   exact .inl ⟨k,l[k],rfl,List.getElem?_eq_getElem h2,h1,h2,by simpa using h4⟩
theorem fault_none {be af:Int}{l:List SRow}{acc:Yd.Acc}{d:Deed Code}(hk:d.kind≠1)(h:¬ at_ (l.map (·.1)) d.stack<l.length):Yd.fault be af (stOf l acc) d=1:=by
 unfold Yd.fault
 rw [if_pos (.inl (by simp only [stOf,List.length_map];rw [decide_eq_false h,decide_eq_false hk]))]
theorem fault_bad {be af:Int}{l:List SRow}{acc:Yd.Acc}{d:Deed Code}(h:((d.kind=5∨d.kind=6)∧d.other=d.stack)∨(d.kind=5∧at_ (l.map (·.1)) d.other<l.length)∨(d.kind=6∧¬ at_ (l.map (·.1)) d.other<l.length)):Yd.fault be af (stOf l acc) d=1:=by
 unfold Yd.fault
 rw [if_pos (.inr (by simp only [stOf,List.length_map];exact h))]
theorem perm_last_two {α:Type}(a b c d x y:α) : [a,b,c,d,x,y].Perm [a,b,c,d,y,x]:=.cons _ (.cons _ (.cons _ (.cons _ (.swap _ _ _))))
theorem fault_hit {be af:Int}{l:List SRow}{acc:Yd.Acc}{d:Deed Code}{k:Nat}{p:SRow}(hk1:d.kind≠1)(hat:at_ (l.map (·.1)) d.stack=k)(hk:k<l.length)(hp:l[k]? = some p)
  (hno:¬ (((d.kind=5∨d.kind=6)∧d.other=d.stack)∨(d.kind=5∧at_ (l.map (·.1)) d.other<l.length)∨(d.kind=6∧¬ at_ (l.map (·.1)) d.other<l.length))) :
  Yd.fault be af (stOf l acc) d=if d.kind=5∧8≤l.length then 2
   else if d.kind=3∧d.day-p.1.piled<be then 3
   else if (d.kind=4∨d.kind=8)∧(p.1.boiled<0∨d.day-p.1.boiled<af)then 3
   else if d.kind=4∧p.1.dry.hi<d.a.lo then 4
   else if d.kind=7∧((p.1.dry.weighed p.1.water d.a).hi<(p.1.dry.weighed p.1.water d.a).lo∨(p.1.water.weighed p.1.dry d.a).hi<(p.1.water.weighed p.1.dry d.a).lo)then 5
   else 0:=by
 have hg:(l.map (·.1))[k]? = some p.1:=by rw [List.getElem?_map,hp];rfl
 unfold Yd.fault
 rw [if_neg (by
  simp only [stOf,List.length_map]
  rintro(h | h)
  ·rw [hat,decide_eq_true hk,decide_eq_false hk1]at h
   cases h
  ·exact hno h)]
 simp only [stOf,List.length_map,hat,hg]
 by_cases h:d.kind=5∧8≤l.length
 ·rw [if_pos h,if_pos ⟨.inr h.1,h.2⟩]
 ·rw [if_neg h,if_neg (fun hh=>h ⟨hh.1.resolve_left hk1,hh.2⟩)]
theorem rfault_calls (bef aft:Int)(ya:Option Addr)(yn yc:Nat)(tv:Value)(aB:List SRow)(acc:Yd.Acc)(kind day:Int)(code aA:Code)(al ah bl bh:Int)(i:Nat)(w:World)(hst:Stands w aB tv)(hs:SmallSt i (stOf aB acc))(hi:i≤12)(hkind:1≤kind∧kind≤8)(hday:0≤day∧day≤2000)(hA:0≤al∧al≤100000000∧0≤ah∧ah≤100000000)(hbe:0≤bef∧bef≤400)(haf:0≤aft∧aft≤400) :
  Calls Try.prog 51 #[.agg #[Z O bef,Z O aft,Zl ya yn yc],.agg (tv :: accCells acc).toArray,.agg #[Z O kind,Z O day,Zs code,Zs aA,Z O al,Z O ah,Z O bl,Z O bh]] w fun e w'=>e=.returned (Z O (Yd.fault bef aft (stOf aB acc) (⟨kind,day,code,aA,⟨al,ah⟩,⟨bl,bh⟩⟩:Deed Code)))∧Below w.heap.size w w':=by
 have hrl:aB.length≤8:=hst.few
 have HST:=Zh (fun W (hW:Below w.heap.size w W)=>hst.below hW)
 obtain⟨ta,tc,htv⟩:=stands_slice hst
 obtain⟨tn,htn⟩:∃ n,n=aB.length:=⟨_,rfl⟩
 rw [← htn]at htv hrl
 subst htv
 have HTN:=Zh htn;have HS:=Zh hs
 obtain⟨ki,hki⟩:∃ x,x=rxInt aB code:=⟨_,rfl⟩
 obtain⟨oi,hoi⟩:∃ x,x=rxInt aB aA:=⟨_,rfl⟩
 have HKI:=Zh hki;have HOI:=Zh hoi
 clear hst htn hs hki hoi
 have HL0:=Zh (p:=Locs w (((w.alloc (.cells #[Z O bef,Z O aft,Zl ya yn yc] 24)).alloc (.cells (Zl ta tn tc :: accCells acc).toArray 36)).alloc (.cells #[Z O kind,Z O day,Zs code,Zs aA,Z O al,Z O ah,Z O bl,Z O bh] 55)) [(w.heap.size,24,[Z O bef,Z O aft,Zl ya yn yc]),(w.heap.size+1,36,Zl ta tn tc :: accCells acc),(w.heap.size+1+1,55,[Z O kind,Z O day,Zs code,Zs aA,Z O al,Z O ah,Z O bl,Z O bh])] []) ((((Locs.start w).alloc 24 [Z O bef,Z O aft,Zl ya yn yc] rfl).alloc 36 (Zl ta tn tc :: accCells acc) (World.size_alloc _ _)).alloc 55 [Z O kind,Z O day,Zs code,Zs aA,Z O al,Z O ah,Z O bl,Z O bh] (by rw [World.size_alloc,World.size_alloc]))
 go_enter Try.func51,Try.ntmps51
 go_upto_region 1 with fail
 generalize World.alloc _ _=w1 at HL0 ⊢
 generalize w.heap.size+1+1=gd at HL0 ⊢
 generalize w.heap.size+1=gs at HL0 ⊢
 obtain⟨gy,hgy⟩:∃ g,g=w.heap.size:=⟨_,rfl⟩
 rw [← hgy]at HL0 ⊢
 clear hgy
 have m0:∀ d os,Calls Try.prog 68 #[Zl ta tn tc,Zs code] (Go.Sort.grow (redrawn w1 d) os) fun e w''=>e=.returned (Z O ki)∧∃ p:Regrown,w''=Go.Sort.grow (redrawn w1 p.d) p.os:=fun d os=>Calls.regrown_of (by rw [HKI.out];exact rat_calls (Zl ta tn tc) aB code _ (HST.out _ (HL0.out.low.trans ((Zk w1 d os).mono HL0.out.low.size))).things (by rw [← HTN.out];omega))
 have m1:∀ d os,Calls Try.prog 68 #[Zl ta tn tc,Zs aA] (Go.Sort.grow (redrawn w1 d) os) fun e w''=>e=.returned (Z O oi)∧∃ p:Regrown,w''=Go.Sort.grow (redrawn w1 p.d) p.os:=fun d os=>Calls.regrown_of (by rw [HOI.out];exact rat_calls (Zl ta tn tc) aB aA _ (HST.out _ (HL0.out.low.trans ((Zk w1 d os).mono HL0.out.low.size))).things (by rw [← HTN.out];omega))
 have p0:=Zg (HL0.out.at 1 0 (v:=Zl ta tn tc) rfl rfl)
 have p1:=Zg (HL0.out.at 2 2 (v:=Zs code) rfl rfl)
 have p2:=Zg (HL0.out.at 2 3 (v:=Zs aA) rfl rfl)
 refine wp_region_quiet_below (by kernel_rfl) (by kernel_rfl) ?_
 repeat(go_big_quiet_step (first|(with_reducible exact m0 _ _)|(with_reducible exact m1 _ _)))
 refine wpQuiet_nil ?_
 intro wq hw'
 have hb8:Below w1.heap.size w1 wq:=by obtain⟨⟨dq,osq⟩,hw''⟩:=hw';rw [hw''];exact Zk _ dq osq
 clear hw' m0 m1 p0 p1 p2
 have HL1:=Zh (HL0.out.below hb8)
 clear hb8 HL0
 generalize wq=w2 at HL1 ⊢
 by_cases k1:kind=1
 ·subst k1
  rcases rx_cases aB code with⟨k,p,hix,hp,hat,hkl,hpc⟩ | ⟨hix,hat⟩
  ·have hkk:ki=(k:Int):=HKI.out.trans hix
   subst hkk
   have HE:=Zh (show Yd.fault bef aft (stOf aB acc) (⟨1,day,code,aA,⟨al,ah⟩,⟨bl,bh⟩⟩:Deed Code)=1 from by
    unfold Yd.fault
    rw [if_pos (.inl (by simp only [stOf,List.length_map];rw [hat,decide_eq_true hkl];rfl))])
   have q0:=HL1.out.at 0 0 (v:=Z O bef) rfl rfl
   have q1:=HL1.out.at 0 1 (v:=Z O aft) rfl rfl
   have q2:=HL1.out.at 1 0 (v:=Zl ta tn tc) rfl rfl
   have q3:=HL1.out.at 2 0 (v:=Z O 1) rfl rfl
   have q4:=HL1.out.at 2 1 (v:=Z O day) rfl rfl
   have q5:=HL1.out.at 2 2 (v:=Zs code) rfl rfl
   have q6:=HL1.out.at 2 3 (v:=Zs aA) rfl rfl
   have q7:=HL1.out.at 2 4 (v:=Z O al) rfl rfl
   have q8:=HL1.out.at 2 5 (v:=Z O ah) rfl rfl
   have q9:=HL1.out.at 2 6 (v:=Z O bl) rfl rfl
   have q10:=HL1.out.at 2 7 (v:=Z O bh) rfl rfl
   go_wp2_with (go_at_call 58;refine(two_calls _ _).mono ?_;rintro e w' ⟨rfl,rfl⟩;rw [show twoK 1=false from rfl])
   go_ret
   exact⟨by rw [HE.out];rfl,HL1.out.low⟩
  ·have hkk:ki = -1:=HKI.out.trans hix
   subst hkk
   by_cases h8:8≤tn
   ·skip
    have h8I:(8:Int)≤(tn:Int):=by omega
    have h8d:decide ((8:Int)≤(tn:Int))=true:=by simpa using h8I
    have HE:=Zh (show Yd.fault bef aft (stOf aB acc) (⟨1,day,code,aA,⟨al,ah⟩,⟨bl,bh⟩⟩:Deed Code)=2 from by
     unfold Yd.fault
     rw [if_neg (by
      simp only [stOf,List.length_map]
      rintro(h | ⟨h,_⟩ | ⟨h,_⟩ | ⟨h,_⟩)
      ·rw [decide_eq_false hat]at h;cases h
      ·omega
      ·omega
      ·omega)]
     simp only [stOf,List.length_map]
     rw [if_pos ⟨.inl trivial,by rw [← HTN.out];exact h8⟩])
    have q0:=HL1.out.at 0 0 (v:=Z O bef) rfl rfl
    have q1:=HL1.out.at 0 1 (v:=Z O aft) rfl rfl
    have q2:=HL1.out.at 1 0 (v:=Zl ta tn tc) rfl rfl
    have q3:=HL1.out.at 2 0 (v:=Z O 1) rfl rfl
    have q4:=HL1.out.at 2 1 (v:=Z O day) rfl rfl
    have q5:=HL1.out.at 2 2 (v:=Zs code) rfl rfl
    have q6:=HL1.out.at 2 3 (v:=Zs aA) rfl rfl
    have q7:=HL1.out.at 2 4 (v:=Z O al) rfl rfl
    have q8:=HL1.out.at 2 5 (v:=Z O ah) rfl rfl
    have q9:=HL1.out.at 2 6 (v:=Z O bl) rfl rfl
    have q10:=HL1.out.at 2 7 (v:=Z O bh) rfl rfl
    go_wp2_with (go_at_call 58;refine(two_calls _ _).mono ?_;rintro e w' ⟨rfl,rfl⟩;rw [show twoK 1=false from rfl])
    go_ret
    exact⟨by rw [HE.out];rfl,HL1.out.low⟩
   ·skip
    have h8I:¬ (8:Int)≤(tn:Int):=by omega
    have h8d:decide ((8:Int)≤(tn:Int))=false:=by simpa using h8I
    have hgn:(aB.map (fun p:SRow=>p.1))[at_ (aB.map (fun p:SRow=>p.1)) code]? = none:=List.getElem?_eq_none (by rw [List.length_map];omega)
    have HE:=Zh (show Yd.fault bef aft (stOf aB acc) (⟨1,day,code,aA,⟨al,ah⟩,⟨bl,bh⟩⟩:Deed Code)=0 from by
     unfold Yd.fault
     rw [if_neg (by
      simp only [stOf,List.length_map]
      rintro(h | ⟨h,_⟩ | ⟨h,_⟩ | ⟨h,_⟩)
      ·rw [decide_eq_false hat]at h;cases h
      ·omega
      ·omega
      ·omega)]
     simp only [stOf,List.length_map]
     rw [if_neg (fun hh=>h8 (by rw [HTN.out];exact hh.2)),hgn])
    have q0:=HL1.out.at 0 0 (v:=Z O bef) rfl rfl
    have q1:=HL1.out.at 0 1 (v:=Z O aft) rfl rfl
    have q2:=HL1.out.at 1 0 (v:=Zl ta tn tc) rfl rfl
    have q3:=HL1.out.at 2 0 (v:=Z O 1) rfl rfl
    have q4:=HL1.out.at 2 1 (v:=Z O day) rfl rfl
    have q5:=HL1.out.at 2 2 (v:=Zs code) rfl rfl
    have q6:=HL1.out.at 2 3 (v:=Zs aA) rfl rfl
    have q7:=HL1.out.at 2 4 (v:=Z O al) rfl rfl
    have q8:=HL1.out.at 2 5 (v:=Z O ah) rfl rfl
    have q9:=HL1.out.at 2 6 (v:=Z O bl) rfl rfl
    have q10:=HL1.out.at 2 7 (v:=Z O bh) rfl rfl
    go_wp2_with (go_at_call 58;refine(two_calls _ _).mono ?_;rintro e w' ⟨rfl,rfl⟩;rw [show twoK 1=false from rfl])
    go_ret
    exact⟨by rw [HE.out];rfl,HL1.out.low⟩
 rcases rx_cases aB code with⟨k,p,hix,hp,hat,hkl,hpc⟩ | ⟨hix,hat⟩
 rotate_left
 ·skip
  have hkk:ki = -1:=HKI.out.trans hix
  subst hkk
  have kb1:(kind == 1)=false:=by simpa using k1
  have HE:=Zh (p:=Yd.fault bef aft (stOf aB acc) (⟨kind,day,code,aA,⟨al,ah⟩,⟨bl,bh⟩⟩:Deed Code)=1) (fault_none (by simp only;exact k1) hat)
  have q0:=HL1.out.at 0 0 (v:=Z O bef) rfl rfl
  have q1:=HL1.out.at 0 1 (v:=Z O aft) rfl rfl
  have q2:=HL1.out.at 1 0 (v:=Zl ta tn tc) rfl rfl
  have q3:=HL1.out.at 2 0 (v:=Z O kind) rfl rfl
  have q4:=HL1.out.at 2 1 (v:=Z O day) rfl rfl
  have q5:=HL1.out.at 2 2 (v:=Zs code) rfl rfl
  have q6:=HL1.out.at 2 3 (v:=Zs aA) rfl rfl
  have q7:=HL1.out.at 2 4 (v:=Z O al) rfl rfl
  have q8:=HL1.out.at 2 5 (v:=Z O ah) rfl rfl
  have q9:=HL1.out.at 2 6 (v:=Z O bl) rfl rfl
  have q10:=HL1.out.at 2 7 (v:=Z O bh) rfl rfl
  go_wp2_with (go_at_call 58;refine(two_calls _ _).mono ?_;rintro e w' ⟨rfl,rfl⟩;skip)
  go_ret
  exact⟨by rw [HE.out];rfl,HL1.out.low⟩
 have hkk:ki=(k:Int):=HKI.out.trans hix
 subst hkk
 have HP:=Zh hp;have HAT:=Zh hat
 have hkn:k<tn:=by rw [HTN.out];exact hkl
 have hknI:(k:Int)<(tn:Int):=by omega
 have HKL:=Zh hkl
 clear hix hp hat hkl hpc
 by_cases k2:kind=2
 ·subst k2
  have q0:=HL1.out.at 0 0 (v:=Z O bef) rfl rfl
  have q1:=HL1.out.at 0 1 (v:=Z O aft) rfl rfl
  have q2:=HL1.out.at 1 0 (v:=Zl ta tn tc) rfl rfl
  have q3:=HL1.out.at 2 0 (v:=Z O 2) rfl rfl
  have q4:=HL1.out.at 2 1 (v:=Z O day) rfl rfl
  have q5:=HL1.out.at 2 2 (v:=Zs code) rfl rfl
  have q6:=HL1.out.at 2 3 (v:=Zs aA) rfl rfl
  have q7:=HL1.out.at 2 4 (v:=Z O al) rfl rfl
  have q8:=HL1.out.at 2 5 (v:=Z O ah) rfl rfl
  have q9:=HL1.out.at 2 6 (v:=Z O bl) rfl rfl
  have q10:=HL1.out.at 2 7 (v:=Z O bh) rfl rfl
  obtain⟨gp,cp,hvp,hgp,hcp,aD⟩:=stk_of (HST.out _ HL1.out.low).things HP.out
  injection hvp with ea en ec
  clear en
  subst ea ec
  have hcn:tn≤tc:=by rw [HTN.out];exact hcp
  obtain⟨fa,fn,fc,hfv⟩:=row_slice ((HST.out _ HL1.out.low).froms p (List.mem_of_getElem? HP.out))
  have hsm:=HS.out.stacks p.1 (List.mem_map_of_mem (List.mem_of_getElem? HP.out))
  obtain⟨⟨xc,⟨dl,dh⟩,⟨wl,wh⟩,pil,boi,src⟩,pv⟩:=p
  simp only at hfv
  subst hfv
  have hcap:=cap_le hi
  have hdl:=hsm.dry;have hwl:=hsm.water;have hpi:=hsm.piled;have hbo:=hsm.boiled
  unfold Bd.Up at hdl hwl
  simp only at hdl hwl hpi hbo
  have hb1:0≤dl∧dl≤2000000000000000∧0≤dh∧dh≤2000000000000000:=by omega
  have hb2:0≤wl∧wl≤2000000000000000∧0≤wh∧wh≤2000000000000000:=by omega
  clear hsm hdl hwl hcap
  have c0:=(show w2.cell? ⟨gp,k*8,none⟩=some (Zs xc)from(aD 0 (by omega)))
  have c1:=(show w2.cell? ⟨gp,k*8+1,none⟩=some (Z O dl)from(aD 1 (by omega)))
  have c2:=(show w2.cell? ⟨gp,k*8+2,none⟩=some (Z O dh)from(aD 2 (by omega)))
  have c3:=(show w2.cell? ⟨gp,k*8+3,none⟩=some (Z O wl)from(aD 3 (by omega)))
  have c4:=(show w2.cell? ⟨gp,k*8+4,none⟩=some (Z O wh)from(aD 4 (by omega)))
  have c5:=(show w2.cell? ⟨gp,k*8+5,none⟩=some (Z O pil)from(aD 5 (by omega)))
  have c6:=(show w2.cell? ⟨gp,k*8+6,none⟩=some (Z O boi)from(aD 6 (by omega)))
  have c7:=(show w2.cell? ⟨gp,k*8+7,none⟩=some (Zl fa fn fc)from(aD 7 (by omega)))
  clear aD hgp hcp
  go_upto_region 10 with(first
   | (go_at_call 58;refine(two_calls _ _).mono ?_;rintro e w' ⟨rfl,rfl⟩;rw [show twoK 2=false from rfl])
   | ((with_reducible refine at_store 49 (.tmp 10) (.tmp 81) ?_);go_must (refine Zw rfl 49 (.tmp 10) (.tmp 81) rfl w2.heap.size 0 _ rfl rfl ((Blk.new w2 49 #[Zs ⟨#[]⟩,Z O 0,Z O 0,Z O 0,Z O 0,Z O 0,Z O 0,Zl none 0 0]).there (o:=0) (n:=8) (Zn rfl)) size_stack ((by simp [Value.oneCell'])) ?_)))
  clear q0 q1 q2 q3 q4 q5 q6 q7 q8 q9 q10 c0 c1 c2 c3 c4 c5 c6 c7
  have HL2:=Zh (p:=Locs w ((w2.alloc (.cells #[Zs ⟨#[]⟩,Z O 0,Z O 0,Z O 0,Z O 0,Z O 0,Z O 0,Zl none 0 0] 49)).setCells w2.heap.size 0 [Zs xc,Z O dl,Z O dh,Z O wl,Z O wh,Z O pil,Z O boi,Zl fa fn fc]) [(gy,24,[Z O bef,Z O aft,Zl ya yn yc]),(gs,36,Zl (some ⟨gp,0,none⟩) tn tc :: accCells acc),(gd,55,[Z O 2,Z O day,Zs code,Zs aA,Z O al,Z O ah,Z O bl,Z O bh]),(w2.heap.size,49,[Zs xc,Z O dl,Z O dh,Z O wl,Z O wh,Z O pil,Z O boi,Zl fa fn fc])] []) ((HL1.out.alloc 49 [Zs ⟨#[]⟩,Z O 0,Z O 0,Z O 0,Z O 0,Z O 0,Z O 0,Zl none 0 0] rfl).setLoc 3 [] [Zs ⟨#[]⟩,Z O 0,Z O 0,Z O 0,Z O 0,Z O 0,Z O 0,Zl none 0 0] [] [Zs xc,Z O dl,Z O dh,Z O wl,Z O wh,Z O pil,Z O boi,Zl fa fn fc] rfl rfl)
  clear HL1
  generalize((w2.alloc (.cells #[Zs ⟨#[]⟩,Z O 0,Z O 0,Z O 0,Z O 0,Z O 0,Z O 0,Zl none 0 0] 49)).setCells w2.heap.size 0 [Zs xc,Z O dl,Z O dh,Z O wl,Z O wh,Z O pil,Z O boi,Zl fa fn fc])=v1 at HL2 ⊢
  generalize w2.heap.size=gx at HL2 ⊢
  try simp only [Act.put]
  have HE:=Zh (show Yd.fault bef aft (stOf aB acc) (⟨2,day,code,aA,⟨al,ah⟩,⟨bl,bh⟩⟩:Deed Code)=0 from by
   rw [(fault_hit (be:=bef) (af:=aft) (acc:=acc) (d:=⟨2,day,code,aA,⟨al,ah⟩,⟨bl,bh⟩⟩) (by simp) HAT.out HKL.out HP.out (by simp))]
   simp)
  have z0:=HL2.out.at 2 0 (v:=Z O 2) rfl rfl
  go_wp2_with (fail)
  go_ret
  exact⟨by rw [HE.out];rfl,HL2.out.low⟩
 by_cases k3:kind=3
 ·subst k3
  have q0:=HL1.out.at 0 0 (v:=Z O bef) rfl rfl
  have q1:=HL1.out.at 0 1 (v:=Z O aft) rfl rfl
  have q2:=HL1.out.at 1 0 (v:=Zl ta tn tc) rfl rfl
  have q3:=HL1.out.at 2 0 (v:=Z O 3) rfl rfl
  have q4:=HL1.out.at 2 1 (v:=Z O day) rfl rfl
  have q5:=HL1.out.at 2 2 (v:=Zs code) rfl rfl
  have q6:=HL1.out.at 2 3 (v:=Zs aA) rfl rfl
  have q7:=HL1.out.at 2 4 (v:=Z O al) rfl rfl
  have q8:=HL1.out.at 2 5 (v:=Z O ah) rfl rfl
  have q9:=HL1.out.at 2 6 (v:=Z O bl) rfl rfl
  have q10:=HL1.out.at 2 7 (v:=Z O bh) rfl rfl
  obtain⟨gp,cp,hvp,hgp,hcp,aD⟩:=stk_of (HST.out _ HL1.out.low).things HP.out
  injection hvp with ea en ec
  clear en
  subst ea ec
  have hcn:tn≤tc:=by rw [HTN.out];exact hcp
  obtain⟨fa,fn,fc,hfv⟩:=row_slice ((HST.out _ HL1.out.low).froms p (List.mem_of_getElem? HP.out))
  have hsm:=HS.out.stacks p.1 (List.mem_map_of_mem (List.mem_of_getElem? HP.out))
  obtain⟨⟨xc,⟨dl,dh⟩,⟨wl,wh⟩,pil,boi,src⟩,pv⟩:=p
  simp only at hfv
  subst hfv
  have hcap:=cap_le hi
  have hdl:=hsm.dry;have hwl:=hsm.water;have hpi:=hsm.piled;have hbo:=hsm.boiled
  unfold Bd.Up at hdl hwl
  simp only at hdl hwl hpi hbo
  have hb1:0≤dl∧dl≤2000000000000000∧0≤dh∧dh≤2000000000000000:=by omega
  have hb2:0≤wl∧wl≤2000000000000000∧0≤wh∧wh≤2000000000000000:=by omega
  clear hsm hdl hwl hcap
  have c0:=(show w2.cell? ⟨gp,k*8,none⟩=some (Zs xc)from(aD 0 (by omega)))
  have c1:=(show w2.cell? ⟨gp,k*8+1,none⟩=some (Z O dl)from(aD 1 (by omega)))
  have c2:=(show w2.cell? ⟨gp,k*8+2,none⟩=some (Z O dh)from(aD 2 (by omega)))
  have c3:=(show w2.cell? ⟨gp,k*8+3,none⟩=some (Z O wl)from(aD 3 (by omega)))
  have c4:=(show w2.cell? ⟨gp,k*8+4,none⟩=some (Z O wh)from(aD 4 (by omega)))
  have c5:=(show w2.cell? ⟨gp,k*8+5,none⟩=some (Z O pil)from(aD 5 (by omega)))
  have c6:=(show w2.cell? ⟨gp,k*8+6,none⟩=some (Z O boi)from(aD 6 (by omega)))
  have c7:=(show w2.cell? ⟨gp,k*8+7,none⟩=some (Zl fa fn fc)from(aD 7 (by omega)))
  clear aD hgp hcp
  go_upto_region 10 with(first
   | (go_at_call 58;refine(two_calls _ _).mono ?_;rintro e w' ⟨rfl,rfl⟩;rw [show twoK 3=false from rfl])
   | ((with_reducible refine at_store 49 (.tmp 10) (.tmp 81) ?_);go_must (refine Zw rfl 49 (.tmp 10) (.tmp 81) rfl w2.heap.size 0 _ rfl rfl ((Blk.new w2 49 #[Zs ⟨#[]⟩,Z O 0,Z O 0,Z O 0,Z O 0,Z O 0,Z O 0,Zl none 0 0]).there (o:=0) (n:=8) (Zn rfl)) size_stack ((by simp [Value.oneCell'])) ?_)))
  clear q0 q1 q2 q3 q4 q5 q6 q7 q8 q9 q10 c0 c1 c2 c3 c4 c5 c6 c7
  have HL2:=Zh (p:=Locs w ((w2.alloc (.cells #[Zs ⟨#[]⟩,Z O 0,Z O 0,Z O 0,Z O 0,Z O 0,Z O 0,Zl none 0 0] 49)).setCells w2.heap.size 0 [Zs xc,Z O dl,Z O dh,Z O wl,Z O wh,Z O pil,Z O boi,Zl fa fn fc]) [(gy,24,[Z O bef,Z O aft,Zl ya yn yc]),(gs,36,Zl (some ⟨gp,0,none⟩) tn tc :: accCells acc),(gd,55,[Z O 3,Z O day,Zs code,Zs aA,Z O al,Z O ah,Z O bl,Z O bh]),(w2.heap.size,49,[Zs xc,Z O dl,Z O dh,Z O wl,Z O wh,Z O pil,Z O boi,Zl fa fn fc])] []) ((HL1.out.alloc 49 [Zs ⟨#[]⟩,Z O 0,Z O 0,Z O 0,Z O 0,Z O 0,Z O 0,Zl none 0 0] rfl).setLoc 3 [] [Zs ⟨#[]⟩,Z O 0,Z O 0,Z O 0,Z O 0,Z O 0,Z O 0,Zl none 0 0] [] [Zs xc,Z O dl,Z O dh,Z O wl,Z O wh,Z O pil,Z O boi,Zl fa fn fc] rfl rfl)
  clear HL1
  generalize((w2.alloc (.cells #[Zs ⟨#[]⟩,Z O 0,Z O 0,Z O 0,Z O 0,Z O 0,Z O 0,Zl none 0 0] 49)).setCells w2.heap.size 0 [Zs xc,Z O dl,Z O dh,Z O wl,Z O wh,Z O pil,Z O boi,Zl fa fn fc])=v2 at HL2 ⊢
  generalize w2.heap.size=gx at HL2 ⊢
  try simp only [Act.put]
  by_cases hw:day-pil<bef
  ·skip
   have hwd:decide (day-pil<bef)=true:=by simpa using hw
   have HE:=Zh (show Yd.fault bef aft (stOf aB acc) (⟨3,day,code,aA,⟨al,ah⟩,⟨bl,bh⟩⟩:Deed Code)=3 from by
    rw [(fault_hit (be:=bef) (af:=aft) (acc:=acc) (d:=⟨3,day,code,aA,⟨al,ah⟩,⟨bl,bh⟩⟩) (by simp) HAT.out HKL.out HP.out (by simp))]
    simp [hw])
   have z0:=HL2.out.at 2 0 (v:=Z O 3) rfl rfl
   have z1:=HL2.out.at 2 1 (v:=Z O day) rfl rfl
   have z2:=HL2.out.at 3 5 (v:=Z O pil) rfl rfl
   have z3:=HL2.out.at 0 0 (v:=Z O bef) rfl rfl
   go_wp2_with (fail)
   go_ret
   exact⟨by rw [HE.out];rfl,HL2.out.low⟩
  ·skip
   have hwd:decide (day-pil<bef)=false:=by simpa using hw
   have HE:=Zh (show Yd.fault bef aft (stOf aB acc) (⟨3,day,code,aA,⟨al,ah⟩,⟨bl,bh⟩⟩:Deed Code)=0 from by
    rw [(fault_hit (be:=bef) (af:=aft) (acc:=acc) (d:=⟨3,day,code,aA,⟨al,ah⟩,⟨bl,bh⟩⟩) (by simp) HAT.out HKL.out HP.out (by simp))]
    simp [hw])
   have z0:=HL2.out.at 2 0 (v:=Z O 3) rfl rfl
   have z1:=HL2.out.at 2 1 (v:=Z O day) rfl rfl
   have z2:=HL2.out.at 3 5 (v:=Z O pil) rfl rfl
   have z3:=HL2.out.at 0 0 (v:=Z O bef) rfl rfl
   go_wp2_with (fail)
   go_ret
   exact⟨by rw [HE.out];rfl,HL2.out.low⟩
 by_cases k4:kind=4
 ·subst k4
  have q0:=HL1.out.at 0 0 (v:=Z O bef) rfl rfl
  have q1:=HL1.out.at 0 1 (v:=Z O aft) rfl rfl
  have q2:=HL1.out.at 1 0 (v:=Zl ta tn tc) rfl rfl
  have q3:=HL1.out.at 2 0 (v:=Z O 4) rfl rfl
  have q4:=HL1.out.at 2 1 (v:=Z O day) rfl rfl
  have q5:=HL1.out.at 2 2 (v:=Zs code) rfl rfl
  have q6:=HL1.out.at 2 3 (v:=Zs aA) rfl rfl
  have q7:=HL1.out.at 2 4 (v:=Z O al) rfl rfl
  have q8:=HL1.out.at 2 5 (v:=Z O ah) rfl rfl
  have q9:=HL1.out.at 2 6 (v:=Z O bl) rfl rfl
  have q10:=HL1.out.at 2 7 (v:=Z O bh) rfl rfl
  obtain⟨gp,cp,hvp,hgp,hcp,aD⟩:=stk_of (HST.out _ HL1.out.low).things HP.out
  injection hvp with ea en ec
  clear en
  subst ea ec
  have hcn:tn≤tc:=by rw [HTN.out];exact hcp
  obtain⟨fa,fn,fc,hfv⟩:=row_slice ((HST.out _ HL1.out.low).froms p (List.mem_of_getElem? HP.out))
  have hsm:=HS.out.stacks p.1 (List.mem_map_of_mem (List.mem_of_getElem? HP.out))
  obtain⟨⟨xc,⟨dl,dh⟩,⟨wl,wh⟩,pil,boi,src⟩,pv⟩:=p
  simp only at hfv
  subst hfv
  have hcap:=cap_le hi
  have hdl:=hsm.dry;have hwl:=hsm.water;have hpi:=hsm.piled;have hbo:=hsm.boiled
  unfold Bd.Up at hdl hwl
  simp only at hdl hwl hpi hbo
  have hb1:0≤dl∧dl≤2000000000000000∧0≤dh∧dh≤2000000000000000:=by omega
  have hb2:0≤wl∧wl≤2000000000000000∧0≤wh∧wh≤2000000000000000:=by omega
  clear hsm hdl hwl hcap
  have c0:=(show w2.cell? ⟨gp,k*8,none⟩=some (Zs xc)from(aD 0 (by omega)))
  have c1:=(show w2.cell? ⟨gp,k*8+1,none⟩=some (Z O dl)from(aD 1 (by omega)))
  have c2:=(show w2.cell? ⟨gp,k*8+2,none⟩=some (Z O dh)from(aD 2 (by omega)))
  have c3:=(show w2.cell? ⟨gp,k*8+3,none⟩=some (Z O wl)from(aD 3 (by omega)))
  have c4:=(show w2.cell? ⟨gp,k*8+4,none⟩=some (Z O wh)from(aD 4 (by omega)))
  have c5:=(show w2.cell? ⟨gp,k*8+5,none⟩=some (Z O pil)from(aD 5 (by omega)))
  have c6:=(show w2.cell? ⟨gp,k*8+6,none⟩=some (Z O boi)from(aD 6 (by omega)))
  have c7:=(show w2.cell? ⟨gp,k*8+7,none⟩=some (Zl fa fn fc)from(aD 7 (by omega)))
  clear aD hgp hcp
  go_upto_region 10 with(first
   | (go_at_call 58;refine(two_calls _ _).mono ?_;rintro e w' ⟨rfl,rfl⟩;rw [show twoK 4=false from rfl])
   | ((with_reducible refine at_store 49 (.tmp 10) (.tmp 81) ?_);go_must (refine Zw rfl 49 (.tmp 10) (.tmp 81) rfl w2.heap.size 0 _ rfl rfl ((Blk.new w2 49 #[Zs ⟨#[]⟩,Z O 0,Z O 0,Z O 0,Z O 0,Z O 0,Z O 0,Zl none 0 0]).there (o:=0) (n:=8) (Zn rfl)) size_stack ((by simp [Value.oneCell'])) ?_)))
  clear q0 q1 q2 q3 q4 q5 q6 q7 q8 q9 q10 c0 c1 c2 c3 c4 c5 c6 c7
  have HL2:=Zh (p:=Locs w ((w2.alloc (.cells #[Zs ⟨#[]⟩,Z O 0,Z O 0,Z O 0,Z O 0,Z O 0,Z O 0,Zl none 0 0] 49)).setCells w2.heap.size 0 [Zs xc,Z O dl,Z O dh,Z O wl,Z O wh,Z O pil,Z O boi,Zl fa fn fc]) [(gy,24,[Z O bef,Z O aft,Zl ya yn yc]),(gs,36,Zl (some ⟨gp,0,none⟩) tn tc :: accCells acc),(gd,55,[Z O 4,Z O day,Zs code,Zs aA,Z O al,Z O ah,Z O bl,Z O bh]),(w2.heap.size,49,[Zs xc,Z O dl,Z O dh,Z O wl,Z O wh,Z O pil,Z O boi,Zl fa fn fc])] []) ((HL1.out.alloc 49 [Zs ⟨#[]⟩,Z O 0,Z O 0,Z O 0,Z O 0,Z O 0,Z O 0,Zl none 0 0] rfl).setLoc 3 [] [Zs ⟨#[]⟩,Z O 0,Z O 0,Z O 0,Z O 0,Z O 0,Z O 0,Zl none 0 0] [] [Zs xc,Z O dl,Z O dh,Z O wl,Z O wh,Z O pil,Z O boi,Zl fa fn fc] rfl rfl)
  clear HL1
  generalize((w2.alloc (.cells #[Zs ⟨#[]⟩,Z O 0,Z O 0,Z O 0,Z O 0,Z O 0,Z O 0,Zl none 0 0] 49)).setCells w2.heap.size 0 [Zs xc,Z O dl,Z O dh,Z O wl,Z O wh,Z O pil,Z O boi,Zl fa fn fc])=v3 at HL2 ⊢
  generalize w2.heap.size=gx at HL2 ⊢
  try simp only [Act.put]
  by_cases hw:boi<0
  ·skip
   have hwd:decide (boi<0)=true:=by simpa using hw
   have HE:=Zh (show Yd.fault bef aft (stOf aB acc) (⟨4,day,code,aA,⟨al,ah⟩,⟨bl,bh⟩⟩:Deed Code)=3 from by
    rw [(fault_hit (be:=bef) (af:=aft) (acc:=acc) (d:=⟨4,day,code,aA,⟨al,ah⟩,⟨bl,bh⟩⟩) (by simp) HAT.out HKL.out HP.out (by simp))]
    simp [hw])
   have z0:=HL2.out.at 2 0 (v:=Z O 4) rfl rfl
   have z1:=HL2.out.at 2 1 (v:=Z O day) rfl rfl
   have z2:=HL2.out.at 2 4 (v:=Z O al) rfl rfl
   have z3:=HL2.out.at 3 2 (v:=Z O dh) rfl rfl
   have z4:=HL2.out.at 3 6 (v:=Z O boi) rfl rfl
   have z5:=HL2.out.at 0 1 (v:=Z O aft) rfl rfl
   go_wp2_with (fail)
   go_ret
   exact⟨by rw [HE.out];rfl,HL2.out.low⟩
  ·skip
   have hv:=hw
   clear hw
   by_cases hw:day-boi<aft
   ·skip
    have hwd:decide (boi<0)=false:=by simpa using hv
    have hwe:decide (day-boi<aft)=true:=by simpa using hw
    have HE:=Zh (show Yd.fault bef aft (stOf aB acc) (⟨4,day,code,aA,⟨al,ah⟩,⟨bl,bh⟩⟩:Deed Code)=3 from by
     rw [(fault_hit (be:=bef) (af:=aft) (acc:=acc) (d:=⟨4,day,code,aA,⟨al,ah⟩,⟨bl,bh⟩⟩) (by simp) HAT.out HKL.out HP.out (by simp))]
     simp [hw])
    have z0:=HL2.out.at 2 0 (v:=Z O 4) rfl rfl
    have z1:=HL2.out.at 2 1 (v:=Z O day) rfl rfl
    have z2:=HL2.out.at 2 4 (v:=Z O al) rfl rfl
    have z3:=HL2.out.at 3 2 (v:=Z O dh) rfl rfl
    have z4:=HL2.out.at 3 6 (v:=Z O boi) rfl rfl
    have z5:=HL2.out.at 0 1 (v:=Z O aft) rfl rfl
    go_wp2_with (fail)
    go_ret
    exact⟨by rw [HE.out];rfl,HL2.out.low⟩
   ·skip
    have hu:=hw
    clear hw
    by_cases hw:dh<al
    ·skip
     have hwd:decide (boi<0)=false:=by simpa using hv
     have hwe:decide (day-boi<aft)=false:=by simpa using hu
     have hwf:decide (dh<al)=true:=by simpa using hw
     have HE:=Zh (show Yd.fault bef aft (stOf aB acc) (⟨4,day,code,aA,⟨al,ah⟩,⟨bl,bh⟩⟩:Deed Code)=4 from by
      rw [(fault_hit (be:=bef) (af:=aft) (acc:=acc) (d:=⟨4,day,code,aA,⟨al,ah⟩,⟨bl,bh⟩⟩) (by simp) HAT.out HKL.out HP.out (by simp))]
      simp [hu,hv,hw])
     have z0:=HL2.out.at 2 0 (v:=Z O 4) rfl rfl
     have z1:=HL2.out.at 2 1 (v:=Z O day) rfl rfl
     have z2:=HL2.out.at 2 4 (v:=Z O al) rfl rfl
     have z3:=HL2.out.at 3 2 (v:=Z O dh) rfl rfl
     have z4:=HL2.out.at 3 6 (v:=Z O boi) rfl rfl
     have z5:=HL2.out.at 0 1 (v:=Z O aft) rfl rfl
     go_wp2_with (fail)
     go_ret
     exact⟨by rw [HE.out];rfl,HL2.out.low⟩
    ·skip
     have hwd:decide (boi<0)=false:=by simpa using hv
     have hwe:decide (day-boi<aft)=false:=by simpa using hu
     have hwf:decide (dh<al)=false:=by simpa using hw
     have HE:=Zh (show Yd.fault bef aft (stOf aB acc) (⟨4,day,code,aA,⟨al,ah⟩,⟨bl,bh⟩⟩:Deed Code)=0 from by
      rw [(fault_hit (be:=bef) (af:=aft) (acc:=acc) (d:=⟨4,day,code,aA,⟨al,ah⟩,⟨bl,bh⟩⟩) (by simp) HAT.out HKL.out HP.out (by simp))]
      simp [hu,hv,hw])
     have z0:=HL2.out.at 2 0 (v:=Z O 4) rfl rfl
     have z1:=HL2.out.at 2 1 (v:=Z O day) rfl rfl
     have z2:=HL2.out.at 2 4 (v:=Z O al) rfl rfl
     have z3:=HL2.out.at 3 2 (v:=Z O dh) rfl rfl
     have z4:=HL2.out.at 3 6 (v:=Z O boi) rfl rfl
     have z5:=HL2.out.at 0 1 (v:=Z O aft) rfl rfl
     go_wp2_with (fail)
     go_ret
     exact⟨by rw [HE.out];rfl,HL2.out.low⟩
 by_cases k5:kind=5
 ·subst k5
  by_cases hw:aA=code
  ·skip
   have hce:(ByteArray.toList aA == ByteArray.toList code)=true:=by rw [hw];simp
   have HE:=Zh (p:=Yd.fault bef aft (stOf aB acc) (⟨5,day,code,aA,⟨al,ah⟩,⟨bl,bh⟩⟩:Deed Code)=1) (fault_bad (.inl ⟨by simp,hw⟩))
   have q0:=HL1.out.at 0 0 (v:=Z O bef) rfl rfl
   have q1:=HL1.out.at 0 1 (v:=Z O aft) rfl rfl
   have q2:=HL1.out.at 1 0 (v:=Zl ta tn tc) rfl rfl
   have q3:=HL1.out.at 2 0 (v:=Z O 5) rfl rfl
   have q4:=HL1.out.at 2 1 (v:=Z O day) rfl rfl
   have q5:=HL1.out.at 2 2 (v:=Zs code) rfl rfl
   have q6:=HL1.out.at 2 3 (v:=Zs aA) rfl rfl
   have q7:=HL1.out.at 2 4 (v:=Z O al) rfl rfl
   have q8:=HL1.out.at 2 5 (v:=Z O ah) rfl rfl
   have q9:=HL1.out.at 2 6 (v:=Z O bl) rfl rfl
   have q10:=HL1.out.at 2 7 (v:=Z O bh) rfl rfl
   go_wp2_with (go_at_call 58;refine(two_calls _ _).mono ?_;rintro e w' ⟨rfl,rfl⟩;rw [show twoK 5=true from rfl])
   go_ret
   exact⟨by rw [HE.out];rfl,HL1.out.low⟩
  ·skip
   have hce:(ByteArray.toList aA == ByteArray.toList code)=false:=by rw [codes_beq];simpa using hw
   have hso:=hw
   clear hw
   rcases rx_cases aB aA with⟨o,p2,hox,hp2,hao,hol,_⟩ | ⟨hox,hao⟩
   ·have hoo:oi=(o:Int):=HOI.out.trans hox
    subst hoo
    have HE:=Zh (p:=Yd.fault bef aft (stOf aB acc) (⟨5,day,code,aA,⟨al,ah⟩,⟨bl,bh⟩⟩:Deed Code)=1) (fault_bad (.inr (.inl ⟨rfl,by simp only;rw [hao];exact hol⟩)))
    have q0:=HL1.out.at 0 0 (v:=Z O bef) rfl rfl
    have q1:=HL1.out.at 0 1 (v:=Z O aft) rfl rfl
    have q2:=HL1.out.at 1 0 (v:=Zl ta tn tc) rfl rfl
    have q3:=HL1.out.at 2 0 (v:=Z O 5) rfl rfl
    have q4:=HL1.out.at 2 1 (v:=Z O day) rfl rfl
    have q5:=HL1.out.at 2 2 (v:=Zs code) rfl rfl
    have q6:=HL1.out.at 2 3 (v:=Zs aA) rfl rfl
    have q7:=HL1.out.at 2 4 (v:=Z O al) rfl rfl
    have q8:=HL1.out.at 2 5 (v:=Z O ah) rfl rfl
    have q9:=HL1.out.at 2 6 (v:=Z O bl) rfl rfl
    have q10:=HL1.out.at 2 7 (v:=Z O bh) rfl rfl
    go_wp2_with (go_at_call 58;refine(two_calls _ _).mono ?_;rintro e w' ⟨rfl,rfl⟩;rw [show twoK 5=true from rfl])
    go_ret
    exact⟨by rw [HE.out];rfl,HL1.out.low⟩
   ·have hoo:oi = -1:=HOI.out.trans hox
    subst hoo
    by_cases hw:8≤tn
    ·skip
     have h8I:(8:Int)≤(tn:Int):=by omega
     have h8d:decide ((8:Int)≤(tn:Int))=true:=by simpa using h8I
     have HE:=Zh (show Yd.fault bef aft (stOf aB acc) (⟨5,day,code,aA,⟨al,ah⟩,⟨bl,bh⟩⟩:Deed Code)=2 from by
      rw [(fault_hit (be:=bef) (af:=aft) (acc:=acc) (d:=⟨5,day,code,aA,⟨al,ah⟩,⟨bl,bh⟩⟩) (by simp) HAT.out HKL.out HP.out (by simp only;rintro(h | h | h);exact hso h.2;exact hao h.2;(have:=h.1;omega))),if_pos ⟨rfl,by rw [← HTN.out];exact hw⟩])
     have q0:=HL1.out.at 0 0 (v:=Z O bef) rfl rfl
     have q1:=HL1.out.at 0 1 (v:=Z O aft) rfl rfl
     have q2:=HL1.out.at 1 0 (v:=Zl ta tn tc) rfl rfl
     have q3:=HL1.out.at 2 0 (v:=Z O 5) rfl rfl
     have q4:=HL1.out.at 2 1 (v:=Z O day) rfl rfl
     have q5:=HL1.out.at 2 2 (v:=Zs code) rfl rfl
     have q6:=HL1.out.at 2 3 (v:=Zs aA) rfl rfl
     have q7:=HL1.out.at 2 4 (v:=Z O al) rfl rfl
     have q8:=HL1.out.at 2 5 (v:=Z O ah) rfl rfl
     have q9:=HL1.out.at 2 6 (v:=Z O bl) rfl rfl
     have q10:=HL1.out.at 2 7 (v:=Z O bh) rfl rfl
     go_wp2_with (go_at_call 58;refine(two_calls _ _).mono ?_;rintro e w' ⟨rfl,rfl⟩;rw [show twoK 5=true from rfl])
     go_ret
     exact⟨by rw [HE.out];rfl,HL1.out.low⟩
    ·skip
     have h8I:¬ (8:Int)≤(tn:Int):=by omega
     have h8d:decide ((8:Int)≤(tn:Int))=false:=by simpa using h8I
     have q0:=HL1.out.at 0 0 (v:=Z O bef) rfl rfl
     have q1:=HL1.out.at 0 1 (v:=Z O aft) rfl rfl
     have q2:=HL1.out.at 1 0 (v:=Zl ta tn tc) rfl rfl
     have q3:=HL1.out.at 2 0 (v:=Z O 5) rfl rfl
     have q4:=HL1.out.at 2 1 (v:=Z O day) rfl rfl
     have q5:=HL1.out.at 2 2 (v:=Zs code) rfl rfl
     have q6:=HL1.out.at 2 3 (v:=Zs aA) rfl rfl
     have q7:=HL1.out.at 2 4 (v:=Z O al) rfl rfl
     have q8:=HL1.out.at 2 5 (v:=Z O ah) rfl rfl
     have q9:=HL1.out.at 2 6 (v:=Z O bl) rfl rfl
     have q10:=HL1.out.at 2 7 (v:=Z O bh) rfl rfl
     obtain⟨gp,cp,hvp,hgp,hcp,aD⟩:=stk_of (HST.out _ HL1.out.low).things HP.out
     injection hvp with ea en ec
     clear en
     subst ea ec
     have hcn:tn≤tc:=by rw [HTN.out];exact hcp
     obtain⟨fa,fn,fc,hfv⟩:=row_slice ((HST.out _ HL1.out.low).froms p (List.mem_of_getElem? HP.out))
     have hsm:=HS.out.stacks p.1 (List.mem_map_of_mem (List.mem_of_getElem? HP.out))
     obtain⟨⟨xc,⟨dl,dh⟩,⟨wl,wh⟩,pil,boi,src⟩,pv⟩:=p
     simp only at hfv
     subst hfv
     have hcap:=cap_le hi
     have hdl:=hsm.dry;have hwl:=hsm.water;have hpi:=hsm.piled;have hbo:=hsm.boiled
     unfold Bd.Up at hdl hwl
     simp only at hdl hwl hpi hbo
     have hb1:0≤dl∧dl≤2000000000000000∧0≤dh∧dh≤2000000000000000:=by omega
     have hb2:0≤wl∧wl≤2000000000000000∧0≤wh∧wh≤2000000000000000:=by omega
     clear hsm hdl hwl hcap
     have c0:=(show w2.cell? ⟨gp,k*8,none⟩=some (Zs xc)from(aD 0 (by omega)))
     have c1:=(show w2.cell? ⟨gp,k*8+1,none⟩=some (Z O dl)from(aD 1 (by omega)))
     have c2:=(show w2.cell? ⟨gp,k*8+2,none⟩=some (Z O dh)from(aD 2 (by omega)))
     have c3:=(show w2.cell? ⟨gp,k*8+3,none⟩=some (Z O wl)from(aD 3 (by omega)))
     have c4:=(show w2.cell? ⟨gp,k*8+4,none⟩=some (Z O wh)from(aD 4 (by omega)))
     have c5:=(show w2.cell? ⟨gp,k*8+5,none⟩=some (Z O pil)from(aD 5 (by omega)))
     have c6:=(show w2.cell? ⟨gp,k*8+6,none⟩=some (Z O boi)from(aD 6 (by omega)))
     have c7:=(show w2.cell? ⟨gp,k*8+7,none⟩=some (Zl fa fn fc)from(aD 7 (by omega)))
     clear aD hgp hcp
     go_upto_region 10 with(first
      | (go_at_call 58;refine(two_calls _ _).mono ?_;rintro e w' ⟨rfl,rfl⟩;rw [show twoK 5=true from rfl])
      | ((with_reducible refine at_store 49 (.tmp 10) (.tmp 81) ?_);go_must (refine Zw rfl 49 (.tmp 10) (.tmp 81) rfl w2.heap.size 0 _ rfl rfl ((Blk.new w2 49 #[Zs ⟨#[]⟩,Z O 0,Z O 0,Z O 0,Z O 0,Z O 0,Z O 0,Zl none 0 0]).there (o:=0) (n:=8) (Zn rfl)) size_stack ((by simp [Value.oneCell'])) ?_)))
     clear q0 q1 q2 q3 q4 q5 q6 q7 q8 q9 q10 c0 c1 c2 c3 c4 c5 c6 c7
     have HL2:=Zh (p:=Locs w ((w2.alloc (.cells #[Zs ⟨#[]⟩,Z O 0,Z O 0,Z O 0,Z O 0,Z O 0,Z O 0,Zl none 0 0] 49)).setCells w2.heap.size 0 [Zs xc,Z O dl,Z O dh,Z O wl,Z O wh,Z O pil,Z O boi,Zl fa fn fc]) [(gy,24,[Z O bef,Z O aft,Zl ya yn yc]),(gs,36,Zl (some ⟨gp,0,none⟩) tn tc :: accCells acc),(gd,55,[Z O 5,Z O day,Zs code,Zs aA,Z O al,Z O ah,Z O bl,Z O bh]),(w2.heap.size,49,[Zs xc,Z O dl,Z O dh,Z O wl,Z O wh,Z O pil,Z O boi,Zl fa fn fc])] []) ((HL1.out.alloc 49 [Zs ⟨#[]⟩,Z O 0,Z O 0,Z O 0,Z O 0,Z O 0,Z O 0,Zl none 0 0] rfl).setLoc 3 [] [Zs ⟨#[]⟩,Z O 0,Z O 0,Z O 0,Z O 0,Z O 0,Z O 0,Zl none 0 0] [] [Zs xc,Z O dl,Z O dh,Z O wl,Z O wh,Z O pil,Z O boi,Zl fa fn fc] rfl rfl)
     clear HL1
     generalize((w2.alloc (.cells #[Zs ⟨#[]⟩,Z O 0,Z O 0,Z O 0,Z O 0,Z O 0,Z O 0,Zl none 0 0] 49)).setCells w2.heap.size 0 [Zs xc,Z O dl,Z O dh,Z O wl,Z O wh,Z O pil,Z O boi,Zl fa fn fc])=v4 at HL2 ⊢
     generalize w2.heap.size=gx at HL2 ⊢
     try simp only [Act.put]
     have HE:=Zh (show Yd.fault bef aft (stOf aB acc) (⟨5,day,code,aA,⟨al,ah⟩,⟨bl,bh⟩⟩:Deed Code)=0 from by
      rw [(fault_hit (be:=bef) (af:=aft) (acc:=acc) (d:=⟨5,day,code,aA,⟨al,ah⟩,⟨bl,bh⟩⟩) (by simp) HAT.out HKL.out HP.out (by simp only;rintro(h | h | h);exact hso h.2;exact hao h.2;(have:=h.1;omega))),if_neg (fun hh=>hw (by rw [HTN.out];exact hh.2))]
      simp)
     have z0:=HL2.out.at 2 0 (v:=Z O 5) rfl rfl
     go_wp2_with (fail)
     go_ret
     exact⟨by rw [HE.out];rfl,HL2.out.low⟩
 by_cases k6:kind=6
 ·subst k6
  by_cases hw:aA=code
  ·skip
   have hce:(ByteArray.toList aA == ByteArray.toList code)=true:=by rw [hw];simp
   have HE:=Zh (p:=Yd.fault bef aft (stOf aB acc) (⟨6,day,code,aA,⟨al,ah⟩,⟨bl,bh⟩⟩:Deed Code)=1) (fault_bad (.inl ⟨by simp,hw⟩))
   have q0:=HL1.out.at 0 0 (v:=Z O bef) rfl rfl
   have q1:=HL1.out.at 0 1 (v:=Z O aft) rfl rfl
   have q2:=HL1.out.at 1 0 (v:=Zl ta tn tc) rfl rfl
   have q3:=HL1.out.at 2 0 (v:=Z O 6) rfl rfl
   have q4:=HL1.out.at 2 1 (v:=Z O day) rfl rfl
   have q5:=HL1.out.at 2 2 (v:=Zs code) rfl rfl
   have q6:=HL1.out.at 2 3 (v:=Zs aA) rfl rfl
   have q7:=HL1.out.at 2 4 (v:=Z O al) rfl rfl
   have q8:=HL1.out.at 2 5 (v:=Z O ah) rfl rfl
   have q9:=HL1.out.at 2 6 (v:=Z O bl) rfl rfl
   have q10:=HL1.out.at 2 7 (v:=Z O bh) rfl rfl
   go_wp2_with (go_at_call 58;refine(two_calls _ _).mono ?_;rintro e w' ⟨rfl,rfl⟩;rw [show twoK 6=true from rfl])
   go_ret
   exact⟨by rw [HE.out];rfl,HL1.out.low⟩
  ·skip
   have hce:(ByteArray.toList aA == ByteArray.toList code)=false:=by rw [codes_beq];simpa using hw
   have hso:=hw
   clear hw
   rcases rx_cases aB aA with⟨o,p2,hox,hp2,hao,hol,_⟩ | ⟨hox,hao⟩
   ·have hoo:oi=(o:Int):=HOI.out.trans hox
    subst hoo
    have q0:=HL1.out.at 0 0 (v:=Z O bef) rfl rfl
    have q1:=HL1.out.at 0 1 (v:=Z O aft) rfl rfl
    have q2:=HL1.out.at 1 0 (v:=Zl ta tn tc) rfl rfl
    have q3:=HL1.out.at 2 0 (v:=Z O 6) rfl rfl
    have q4:=HL1.out.at 2 1 (v:=Z O day) rfl rfl
    have q5:=HL1.out.at 2 2 (v:=Zs code) rfl rfl
    have q6:=HL1.out.at 2 3 (v:=Zs aA) rfl rfl
    have q7:=HL1.out.at 2 4 (v:=Z O al) rfl rfl
    have q8:=HL1.out.at 2 5 (v:=Z O ah) rfl rfl
    have q9:=HL1.out.at 2 6 (v:=Z O bl) rfl rfl
    have q10:=HL1.out.at 2 7 (v:=Z O bh) rfl rfl
    obtain⟨gp,cp,hvp,hgp,hcp,aD⟩:=stk_of (HST.out _ HL1.out.low).things HP.out
    injection hvp with ea en ec
    clear en
    subst ea ec
    have hcn:tn≤tc:=by rw [HTN.out];exact hcp
    obtain⟨fa,fn,fc,hfv⟩:=row_slice ((HST.out _ HL1.out.low).froms p (List.mem_of_getElem? HP.out))
    have hsm:=HS.out.stacks p.1 (List.mem_map_of_mem (List.mem_of_getElem? HP.out))
    obtain⟨⟨xc,⟨dl,dh⟩,⟨wl,wh⟩,pil,boi,src⟩,pv⟩:=p
    simp only at hfv
    subst hfv
    have hcap:=cap_le hi
    have hdl:=hsm.dry;have hwl:=hsm.water;have hpi:=hsm.piled;have hbo:=hsm.boiled
    unfold Bd.Up at hdl hwl
    simp only at hdl hwl hpi hbo
    have hb1:0≤dl∧dl≤2000000000000000∧0≤dh∧dh≤2000000000000000:=by omega
    have hb2:0≤wl∧wl≤2000000000000000∧0≤wh∧wh≤2000000000000000:=by omega
    clear hsm hdl hwl hcap
    have c0:=(show w2.cell? ⟨gp,k*8,none⟩=some (Zs xc)from(aD 0 (by omega)))
    have c1:=(show w2.cell? ⟨gp,k*8+1,none⟩=some (Z O dl)from(aD 1 (by omega)))
    have c2:=(show w2.cell? ⟨gp,k*8+2,none⟩=some (Z O dh)from(aD 2 (by omega)))
    have c3:=(show w2.cell? ⟨gp,k*8+3,none⟩=some (Z O wl)from(aD 3 (by omega)))
    have c4:=(show w2.cell? ⟨gp,k*8+4,none⟩=some (Z O wh)from(aD 4 (by omega)))
    have c5:=(show w2.cell? ⟨gp,k*8+5,none⟩=some (Z O pil)from(aD 5 (by omega)))
    have c6:=(show w2.cell? ⟨gp,k*8+6,none⟩=some (Z O boi)from(aD 6 (by omega)))
    have c7:=(show w2.cell? ⟨gp,k*8+7,none⟩=some (Zl fa fn fc)from(aD 7 (by omega)))
    clear aD hgp hcp
    go_upto_region 10 with(first
     | (go_at_call 58;refine(two_calls _ _).mono ?_;rintro e w' ⟨rfl,rfl⟩;rw [show twoK 6=true from rfl])
     | ((with_reducible refine at_store 49 (.tmp 10) (.tmp 81) ?_);go_must (refine Zw rfl 49 (.tmp 10) (.tmp 81) rfl w2.heap.size 0 _ rfl rfl ((Blk.new w2 49 #[Zs ⟨#[]⟩,Z O 0,Z O 0,Z O 0,Z O 0,Z O 0,Z O 0,Zl none 0 0]).there (o:=0) (n:=8) (Zn rfl)) size_stack ((by simp [Value.oneCell'])) ?_)))
    clear q0 q1 q2 q3 q4 q5 q6 q7 q8 q9 q10 c0 c1 c2 c3 c4 c5 c6 c7
    have HL2:=Zh (p:=Locs w ((w2.alloc (.cells #[Zs ⟨#[]⟩,Z O 0,Z O 0,Z O 0,Z O 0,Z O 0,Z O 0,Zl none 0 0] 49)).setCells w2.heap.size 0 [Zs xc,Z O dl,Z O dh,Z O wl,Z O wh,Z O pil,Z O boi,Zl fa fn fc]) [(gy,24,[Z O bef,Z O aft,Zl ya yn yc]),(gs,36,Zl (some ⟨gp,0,none⟩) tn tc :: accCells acc),(gd,55,[Z O 6,Z O day,Zs code,Zs aA,Z O al,Z O ah,Z O bl,Z O bh]),(w2.heap.size,49,[Zs xc,Z O dl,Z O dh,Z O wl,Z O wh,Z O pil,Z O boi,Zl fa fn fc])] []) ((HL1.out.alloc 49 [Zs ⟨#[]⟩,Z O 0,Z O 0,Z O 0,Z O 0,Z O 0,Z O 0,Zl none 0 0] rfl).setLoc 3 [] [Zs ⟨#[]⟩,Z O 0,Z O 0,Z O 0,Z O 0,Z O 0,Z O 0,Zl none 0 0] [] [Zs xc,Z O dl,Z O dh,Z O wl,Z O wh,Z O pil,Z O boi,Zl fa fn fc] rfl rfl)
    clear HL1
    generalize((w2.alloc (.cells #[Zs ⟨#[]⟩,Z O 0,Z O 0,Z O 0,Z O 0,Z O 0,Z O 0,Zl none 0 0] 49)).setCells w2.heap.size 0 [Zs xc,Z O dl,Z O dh,Z O wl,Z O wh,Z O pil,Z O boi,Zl fa fn fc])=v5 at HL2 ⊢
    generalize w2.heap.size=gx at HL2 ⊢
    try simp only [Act.put]
    have HE:=Zh (show Yd.fault bef aft (stOf aB acc) (⟨6,day,code,aA,⟨al,ah⟩,⟨bl,bh⟩⟩:Deed Code)=0 from by
     rw [(fault_hit (be:=bef) (af:=aft) (acc:=acc) (d:=⟨6,day,code,aA,⟨al,ah⟩,⟨bl,bh⟩⟩) (by simp) HAT.out HKL.out HP.out (by simp only;rintro(h | h | h);exact hso h.2;(have:=h.1;omega);exact h.2 (by rw [hao];exact hol)))]
     simp)
    have z0:=HL2.out.at 2 0 (v:=Z O 6) rfl rfl
    go_wp2_with (fail)
    go_ret
    exact⟨by rw [HE.out];rfl,HL2.out.low⟩
   ·have hoo:oi = -1:=HOI.out.trans hox
    subst hoo
    have HE:=Zh (p:=Yd.fault bef aft (stOf aB acc) (⟨6,day,code,aA,⟨al,ah⟩,⟨bl,bh⟩⟩:Deed Code)=1) (fault_bad (.inr (.inr ⟨rfl,hao⟩)))
    have q0:=HL1.out.at 0 0 (v:=Z O bef) rfl rfl
    have q1:=HL1.out.at 0 1 (v:=Z O aft) rfl rfl
    have q2:=HL1.out.at 1 0 (v:=Zl ta tn tc) rfl rfl
    have q3:=HL1.out.at 2 0 (v:=Z O 6) rfl rfl
    have q4:=HL1.out.at 2 1 (v:=Z O day) rfl rfl
    have q5:=HL1.out.at 2 2 (v:=Zs code) rfl rfl
    have q6:=HL1.out.at 2 3 (v:=Zs aA) rfl rfl
    have q7:=HL1.out.at 2 4 (v:=Z O al) rfl rfl
    have q8:=HL1.out.at 2 5 (v:=Z O ah) rfl rfl
    have q9:=HL1.out.at 2 6 (v:=Z O bl) rfl rfl
    have q10:=HL1.out.at 2 7 (v:=Z O bh) rfl rfl
    go_wp2_with (go_at_call 58;refine(two_calls _ _).mono ?_;rintro e w' ⟨rfl,rfl⟩;rw [show twoK 6=true from rfl])
    go_ret
    exact⟨by rw [HE.out];rfl,HL1.out.low⟩
 by_cases k7:kind=7
 ·subst k7
  have q0:=HL1.out.at 0 0 (v:=Z O bef) rfl rfl
  have q1:=HL1.out.at 0 1 (v:=Z O aft) rfl rfl
  have q2:=HL1.out.at 1 0 (v:=Zl ta tn tc) rfl rfl
  have q3:=HL1.out.at 2 0 (v:=Z O 7) rfl rfl
  have q4:=HL1.out.at 2 1 (v:=Z O day) rfl rfl
  have q5:=HL1.out.at 2 2 (v:=Zs code) rfl rfl
  have q6:=HL1.out.at 2 3 (v:=Zs aA) rfl rfl
  have q7:=HL1.out.at 2 4 (v:=Z O al) rfl rfl
  have q8:=HL1.out.at 2 5 (v:=Z O ah) rfl rfl
  have q9:=HL1.out.at 2 6 (v:=Z O bl) rfl rfl
  have q10:=HL1.out.at 2 7 (v:=Z O bh) rfl rfl
  obtain⟨gp,cp,hvp,hgp,hcp,aD⟩:=stk_of (HST.out _ HL1.out.low).things HP.out
  injection hvp with ea en ec
  clear en
  subst ea ec
  have hcn:tn≤tc:=by rw [HTN.out];exact hcp
  obtain⟨fa,fn,fc,hfv⟩:=row_slice ((HST.out _ HL1.out.low).froms p (List.mem_of_getElem? HP.out))
  have hsm:=HS.out.stacks p.1 (List.mem_map_of_mem (List.mem_of_getElem? HP.out))
  obtain⟨⟨xc,⟨dl,dh⟩,⟨wl,wh⟩,pil,boi,src⟩,pv⟩:=p
  simp only at hfv
  subst hfv
  have hcap:=cap_le hi
  have hdl:=hsm.dry;have hwl:=hsm.water;have hpi:=hsm.piled;have hbo:=hsm.boiled
  unfold Bd.Up at hdl hwl
  simp only at hdl hwl hpi hbo
  have hb1:0≤dl∧dl≤2000000000000000∧0≤dh∧dh≤2000000000000000:=by omega
  have hb2:0≤wl∧wl≤2000000000000000∧0≤wh∧wh≤2000000000000000:=by omega
  clear hsm hdl hwl hcap
  have c0:=(show w2.cell? ⟨gp,k*8,none⟩=some (Zs xc)from(aD 0 (by omega)))
  have c1:=(show w2.cell? ⟨gp,k*8+1,none⟩=some (Z O dl)from(aD 1 (by omega)))
  have c2:=(show w2.cell? ⟨gp,k*8+2,none⟩=some (Z O dh)from(aD 2 (by omega)))
  have c3:=(show w2.cell? ⟨gp,k*8+3,none⟩=some (Z O wl)from(aD 3 (by omega)))
  have c4:=(show w2.cell? ⟨gp,k*8+4,none⟩=some (Z O wh)from(aD 4 (by omega)))
  have c5:=(show w2.cell? ⟨gp,k*8+5,none⟩=some (Z O pil)from(aD 5 (by omega)))
  have c6:=(show w2.cell? ⟨gp,k*8+6,none⟩=some (Z O boi)from(aD 6 (by omega)))
  have c7:=(show w2.cell? ⟨gp,k*8+7,none⟩=some (Zl fa fn fc)from(aD 7 (by omega)))
  clear aD hgp hcp
  go_upto_region 10 with(first
   | (go_at_call 58;refine(two_calls _ _).mono ?_;rintro e w' ⟨rfl,rfl⟩;rw [show twoK 7=false from rfl])
   | ((with_reducible refine at_store 49 (.tmp 10) (.tmp 81) ?_);go_must (refine Zw rfl 49 (.tmp 10) (.tmp 81) rfl w2.heap.size 0 _ rfl rfl ((Blk.new w2 49 #[Zs ⟨#[]⟩,Z O 0,Z O 0,Z O 0,Z O 0,Z O 0,Z O 0,Zl none 0 0]).there (o:=0) (n:=8) (Zn rfl)) size_stack ((by simp [Value.oneCell'])) ?_)))
  clear q0 q1 q2 q3 q4 q5 q6 q7 q8 q9 q10 c0 c1 c2 c3 c4 c5 c6 c7
  have HL2:=Zh (p:=Locs w ((w2.alloc (.cells #[Zs ⟨#[]⟩,Z O 0,Z O 0,Z O 0,Z O 0,Z O 0,Z O 0,Zl none 0 0] 49)).setCells w2.heap.size 0 [Zs xc,Z O dl,Z O dh,Z O wl,Z O wh,Z O pil,Z O boi,Zl fa fn fc]) [(gy,24,[Z O bef,Z O aft,Zl ya yn yc]),(gs,36,Zl (some ⟨gp,0,none⟩) tn tc :: accCells acc),(gd,55,[Z O 7,Z O day,Zs code,Zs aA,Z O al,Z O ah,Z O bl,Z O bh]),(w2.heap.size,49,[Zs xc,Z O dl,Z O dh,Z O wl,Z O wh,Z O pil,Z O boi,Zl fa fn fc])] []) ((HL1.out.alloc 49 [Zs ⟨#[]⟩,Z O 0,Z O 0,Z O 0,Z O 0,Z O 0,Z O 0,Zl none 0 0] rfl).setLoc 3 [] [Zs ⟨#[]⟩,Z O 0,Z O 0,Z O 0,Z O 0,Z O 0,Z O 0,Zl none 0 0] [] [Zs xc,Z O dl,Z O dh,Z O wl,Z O wh,Z O pil,Z O boi,Zl fa fn fc] rfl rfl)
  clear HL1
  generalize((w2.alloc (.cells #[Zs ⟨#[]⟩,Z O 0,Z O 0,Z O 0,Z O 0,Z O 0,Z O 0,Zl none 0 0] 49)).setCells w2.heap.size 0 [Zs xc,Z O dl,Z O dh,Z O wl,Z O wh,Z O pil,Z O boi,Zl fa fn fc])=v6 at HL2 ⊢
  generalize w2.heap.size=gx at HL2 ⊢
  try simp only [Act.put]
  skip
  have ez1:=Zh (p:=True) (trivial)
  obtain⟨u0,u1,hu⟩:∃ u0 u1,Bd.weighed ⟨dl,dh⟩ ⟨wl,wh⟩ ⟨al,ah⟩=⟨u0,u1⟩:=⟨_,_,rfl⟩
  obtain⟨v0,v1,hvv⟩:∃ v0 v1,Bd.weighed ⟨wl,wh⟩ ⟨dl,dh⟩ ⟨al,ah⟩=⟨v0,v1⟩:=⟨_,_,rfl⟩
  have HWD:=Zh (fun W=>rweighed_calls ⟨dl,dh⟩ ⟨wl,wh⟩ ⟨al,ah⟩ W (by simp only [Bd.Fit];omega) (by simp only [Bd.Fit];omega) (by simp only [Bd.Fit];omega))
  have HWW:=Zh (fun W=>rweighed_calls ⟨wl,wh⟩ ⟨dl,dh⟩ ⟨al,ah⟩ W (by simp only [Bd.Fit];omega) (by simp only [Bd.Fit];omega) (by simp only [Bd.Fit];omega))
  rw [hu]at HWD
  rw [hvv]at HWW
  have HUV:=Zh (And.intro hu hvv)
  clear hu hvv
  have z0:=HL2.out.at 2 0 (v:=Z O 7) rfl rfl
  have z1:=HL2.out.at 2 4 (v:=Z O al) rfl rfl
  have z2:=HL2.out.at 2 5 (v:=Z O ah) rfl rfl
  have z3:=HL2.out.at 3 1 (v:=Z O dl) rfl rfl
  have z4:=HL2.out.at 3 2 (v:=Z O dh) rfl rfl
  have z5:=HL2.out.at 3 3 (v:=Z O wl) rfl rfl
  have z6:=HL2.out.at 3 4 (v:=Z O wh) rfl rfl
  go_upto_region 21 with(fail)
  clear z0 z1 z2 z3 z4 z5 z6
  go_cut [11,12]from 124 to 137 (fun sa sb wx => ∃(g11 g12:Nat),sa=.pointer (some ⟨g11,0,none⟩)∧sb=.pointer (some ⟨g12,0,none⟩)∧Hid (Locs w wx [(gy,24,[Z O bef,Z O aft,Zl ya yn yc]),(gs,36,Zl (some ⟨gp,0,none⟩) tn tc :: accCells acc),(gd,55,[Z O 7,Z O day,Zs code,Zs aA,Z O al,Z O ah,Z O bl,Z O bh]),(gx,49,[Zs xc,Z O dl,Z O dh,Z O wl,Z O wh,Z O pil,Z O boi,Zl fa fn fc]),(g11,32,[Z O u0,Z O u1]),(g12,32,[Z O v0,Z O v1])] []))
  case first =>
   refine region_till [] (fun w'=>Below v6.heap.size v6 w') 18 [false,false,false,false,false,false,false,false,false,false,false,false,false,false,false,false,false,false] (by kernel_rfl) rfl rfl ?_
   have HT:=Zh ((Below.refl v6.heap.size v6).drew)
   have HL3:=Zh (HL2.out.drew)
   generalize v6.drew=v7 at HT HL3 ⊢
   refine till_pure (i:=0) (v:=.pointer (some ⟨gx,1,none⟩)) rfl rfl (by kernel_rfl) (fun _ _ _ h=>h) (yields_of rfl (fun w' _=>by simp [go_sem])) (fun _=>HT.out) ?_
   try simp only [Za,Zb,Zc]
   refine till_load (i:=1) (v:=.agg #[Z O dl,Z O dh]) rfl rfl (by kernel_rfl) (fun _ _ _ h=>h) (yields_mid rfl 32 (.tmp 124) rfl (gx) 1 rfl [Z O dl,Z O dh] _ (fun w' hw'=>HL2.out.rangeB hw' 3 1 _ rfl rfl) Try.underlying32 rfl (by kernel_rfl)) (fun _=>HT.out) ?_
   try simp only [Za,Zb,Zc]
   refine till_pure (i:=2) (v:=.pointer (some ⟨gx,3,none⟩)) rfl rfl (by kernel_rfl) (fun _ _ _ h=>h) (yields_of rfl (fun w' _=>by simp [go_sem])) (fun _=>HT.out) ?_
   try simp only [Za,Zb,Zc]
   refine till_load (i:=3) (v:=.agg #[Z O wl,Z O wh]) rfl rfl (by kernel_rfl) (fun _ _ _ h=>h) (yields_mid rfl 32 (.tmp 126) rfl (gx) 3 rfl [Z O wl,Z O wh] _ (fun w' hw'=>HL2.out.rangeB hw' 3 3 _ rfl rfl) Try.underlying32 rfl (by kernel_rfl)) (fun _=>HT.out) ?_
   try simp only [Za,Zb,Zc]
   refine till_pure (i:=4) (v:=.pointer (some ⟨gd,4,none⟩)) rfl rfl (by kernel_rfl) (fun _ _ _ h=>h) (yields_of rfl (fun w' _=>by simp [go_sem])) (fun _=>HT.out) ?_
   try simp only [Za,Zb,Zc]
   refine till_load (i:=5) (v:=.agg #[Z O al,Z O ah]) rfl rfl (by kernel_rfl) (fun _ _ _ h=>h) (yields_mid rfl 32 (.tmp 128) rfl (gd) 4 rfl [Z O al,Z O ah] _ (fun w' hw'=>HL2.out.rangeB hw' 2 4 _ rfl rfl) Try.underlying32 rfl (by kernel_rfl)) (fun _=>HT.out) ?_
   try simp only [Za,Zb,Zc]
   refine till_pure (i:=7) (v:=.pointer (some ⟨gx,3,none⟩)) rfl rfl (by kernel_rfl) (fun _ _ _ h=>h) (yields_of rfl (fun w' _=>by simp [go_sem])) (fun _=>HT.out) ?_
   try simp only [Za,Zb,Zc]
   refine till_load (i:=8) (v:=.agg #[Z O wl,Z O wh]) rfl rfl (by kernel_rfl) (fun _ _ _ h=>h) (yields_mid rfl 32 (.tmp 131) rfl (gx) 3 rfl [Z O wl,Z O wh] _ (fun w' hw'=>HL2.out.rangeB hw' 3 3 _ rfl rfl) Try.underlying32 rfl (by kernel_rfl)) (fun _=>HT.out) ?_
   try simp only [Za,Zb,Zc]
   refine till_pure (i:=9) (v:=.pointer (some ⟨gx,1,none⟩)) rfl rfl (by kernel_rfl) (fun _ _ _ h=>h) (yields_of rfl (fun w' _=>by simp [go_sem])) (fun _=>HT.out) ?_
   try simp only [Za,Zb,Zc]
   refine till_load (i:=10) (v:=.agg #[Z O dl,Z O dh]) rfl rfl (by kernel_rfl) (fun _ _ _ h=>h) (yields_mid rfl 32 (.tmp 133) rfl (gx) 1 rfl [Z O dl,Z O dh] _ (fun w' hw'=>HL2.out.rangeB hw' 3 1 _ rfl rfl) Try.underlying32 rfl (by kernel_rfl)) (fun _=>HT.out) ?_
   try simp only [Za,Zb,Zc]
   refine till_pure (i:=11) (v:=.pointer (some ⟨gd,4,none⟩)) rfl rfl (by kernel_rfl) (fun _ _ _ h=>h) (yields_of rfl (fun w' _=>by simp [go_sem])) (fun _=>HT.out) ?_
   try simp only [Za,Zb,Zc]
   refine till_load (i:=12) (v:=.agg #[Z O al,Z O ah]) rfl rfl (by kernel_rfl) (fun _ _ _ h=>h) (yields_mid rfl 32 (.tmp 135) rfl (gd) 4 rfl [Z O al,Z O ah] _ (fun w' hw'=>HL2.out.rangeB hw' 2 4 _ rfl rfl) Try.underlying32 rfl (by kernel_rfl)) (fun _=>HT.out) ?_
   try simp only [Za,Zb,Zc]
   refine till_three (i:=6) (j:=14) (k:=15) (by kernel_rfl) rfl rfl rfl ?_ ?_ ?_
   ·go_wp2_with (go_at_call 69;refine(HWD.out _).mono ?_;rintro e v8 ⟨rfl,hb⟩;have HL4:=Zh (HL3.out.below hb);have HT:=Zh (HT.out.trans (hb.mono HT.out.size));clear hb)
    refine⟨(fun _=>HT.out),?_⟩
    try simp only [Za,Zb,Zc]
    refine till_three (i:=13) (j:=14) (k:=15) (by kernel_rfl) rfl rfl rfl ?_ ?_ ?_
    ·go_wp2_with (go_at_call 69;refine(HWW.out _).mono ?_;rintro e v9 ⟨rfl,hb⟩;have HL5:=Zh (HL4.out.below hb);have HT:=Zh (HT.out.trans (hb.mono HT.out.size));clear hb)
     refine⟨(fun _=>HT.out),?_⟩
     try simp only [Za,Zb,Zc]
     refine till_two (i:=14) (j:=15) (by kernel_rfl) rfl rfl ?_ ?_
     ·go_wp2_with fail
      have HGE_g11:=Zh (p:=v6.heap.size≤v9.heap.size) (HT.out.size)
      have HT2:=Zh (HT.out.alloc HT.out.size (.cells #[Z O 0,Z O 0] 32))
      have HL6:=Zh (p:=Locs w (v9.alloc (.cells #[Z O 0,Z O 0] 32)) [(gy,24,[Z O bef,Z O aft,Zl ya yn yc]),(gs,36,Zl (some ⟨gp,0,none⟩) tn tc :: accCells acc),(gd,55,[Z O 7,Z O day,Zs code,Zs aA,Z O al,Z O ah,Z O bl,Z O bh]),(gx,49,[Zs xc,Z O dl,Z O dh,Z O wl,Z O wh,Z O pil,Z O boi,Zl fa fn fc]),(v9.heap.size,32,[Z O 0,Z O 0])] []) (HL5.out.alloc 32 [Z O 0,Z O 0] rfl)
      clear HL5 HT
      generalize World.alloc _ _=v10 at HL6 HT2 ⊢
      have HT:=HT2;clear HT2
      generalize v9.heap.size=g11 at HL6 HGE_g11 ⊢
      refine⟨(fun _=>HT.out),?_⟩
      try simp only [Za,Zb,Zc]
      refine till_only (j:=15) (by kernel_rfl) rfl ?_
      go_wp2_with fail
      have HGE_g12:=Zh (p:=v6.heap.size≤v10.heap.size) (HT.out.size)
      have HT2:=Zh (HT.out.alloc HT.out.size (.cells #[Z O 0,Z O 0] 32))
      have HL7:=Zh (p:=Locs w (v10.alloc (.cells #[Z O 0,Z O 0] 32)) [(gy,24,[Z O bef,Z O aft,Zl ya yn yc]),(gs,36,Zl (some ⟨gp,0,none⟩) tn tc :: accCells acc),(gd,55,[Z O 7,Z O day,Zs code,Zs aA,Z O al,Z O ah,Z O bl,Z O bh]),(gx,49,[Zs xc,Z O dl,Z O dh,Z O wl,Z O wh,Z O pil,Z O boi,Zl fa fn fc]),(g11,32,[Z O 0,Z O 0]),(v10.heap.size,32,[Z O 0,Z O 0])] []) (HL6.out.alloc 32 [Z O 0,Z O 0] rfl)
      clear HL6 HT
      generalize World.alloc _ _=v11 at HL7 HT2 ⊢
      have HT:=HT2;clear HT2
      generalize v10.heap.size=g12 at HL7 HGE_g12 ⊢
      refine⟨(fun _=>HT.out),?_⟩
      try simp only [Za,Zb,Zc]
      refine till_only (j:=16) (by kernel_rfl) rfl ?_
      refine Zw rfl 32 (.tmp 11) (.tmp 130) rfl (g11) 0 _ rfl rfl (HL7.out.there 4 (o:=0) (n:=2) rfl (Zn rfl)) size_bounds (by simp [Value.oneCell']) ?_
      change wpList _ _ _ _ _ (v11.setCells g11 0 [Z O u0,Z O u1])
      have HT2:=Zh (below_setCells HT.out (HGE_g11.out) [Z O u0,Z O u1] 0)
      have HL8:=Zh (p:=Locs w (v11.setCells g11 0 [Z O u0,Z O u1]) [(gy,24,[Z O bef,Z O aft,Zl ya yn yc]),(gs,36,Zl (some ⟨gp,0,none⟩) tn tc :: accCells acc),(gd,55,[Z O 7,Z O day,Zs code,Zs aA,Z O al,Z O ah,Z O bl,Z O bh]),(gx,49,[Zs xc,Z O dl,Z O dh,Z O wl,Z O wh,Z O pil,Z O boi,Zl fa fn fc]),(g11,32,[Z O u0,Z O u1]),(g12,32,[Z O 0,Z O 0])] []) (HL7.out.put 4 0 _ rfl)
      clear HL7 HT
      generalize World.setCells _ _ _ _=v12 at HL8 HT2 ⊢
      have HT:=HT2;clear HT2
      change Till _ _ _ _∧wpAnyT _ _ _ _ _ _ _ _ _ _
      refine⟨(fun _=>HT.out),?_⟩
      try simp only [Za,Zb,Zc]
      refine till_only (j:=17) (by kernel_rfl) rfl ?_
      refine Zw rfl 32 (.tmp 12) (.tmp 137) rfl (g12) 0 _ rfl rfl (HL8.out.there 5 (o:=0) (n:=2) rfl (Zn rfl)) size_bounds (by simp [Value.oneCell']) ?_
      change wpList _ _ _ _ _ (v12.setCells g12 0 [Z O v0,Z O v1])
      have HT2:=Zh (below_setCells HT.out (HGE_g12.out) [Z O v0,Z O v1] 0)
      have HL9:=Zh (p:=Locs w (v12.setCells g12 0 [Z O v0,Z O v1]) [(gy,24,[Z O bef,Z O aft,Zl ya yn yc]),(gs,36,Zl (some ⟨gp,0,none⟩) tn tc :: accCells acc),(gd,55,[Z O 7,Z O day,Zs code,Zs aA,Z O al,Z O ah,Z O bl,Z O bh]),(gx,49,[Zs xc,Z O dl,Z O dh,Z O wl,Z O wh,Z O pil,Z O boi,Zl fa fn fc]),(g11,32,[Z O u0,Z O u1]),(g12,32,[Z O v0,Z O v1])] []) (HL8.out.put 5 0 _ rfl)
      clear HL8 HT
      generalize World.setCells _ _ _ _=v13 at HL9 HT2 ⊢
      have HT:=HT2;clear HT2
      change Till _ _ _ _∧wpAnyT _ _ _ _ _ _ _ _ _ _
      refine⟨(fun _=>HT.out),?_⟩
      try simp only [Za,Zb,Zc]
      refine till_done (by kernel_rfl) ?_
      go_wp2_with fail
      go_meet
      case rel=>exact⟨_,_,rfl,rfl,HL9⟩
     ·go_wp2_with fail
      have HGE_g12:=Zh (p:=v6.heap.size≤v9.heap.size) (HT.out.size)
      have HT2:=Zh (HT.out.alloc HT.out.size (.cells #[Z O 0,Z O 0] 32))
      have HL6:=Zh (p:=Locs w (v9.alloc (.cells #[Z O 0,Z O 0] 32)) [(gy,24,[Z O bef,Z O aft,Zl ya yn yc]),(gs,36,Zl (some ⟨gp,0,none⟩) tn tc :: accCells acc),(gd,55,[Z O 7,Z O day,Zs code,Zs aA,Z O al,Z O ah,Z O bl,Z O bh]),(gx,49,[Zs xc,Z O dl,Z O dh,Z O wl,Z O wh,Z O pil,Z O boi,Zl fa fn fc]),(v9.heap.size,32,[Z O 0,Z O 0])] []) (HL5.out.alloc 32 [Z O 0,Z O 0] rfl)
      clear HL5 HT
      generalize World.alloc _ _=v14 at HL6 HT2 ⊢
      have HT:=HT2;clear HT2
      generalize v9.heap.size=g12 at HL6 HGE_g12 ⊢
      refine⟨(fun _=>HT.out),?_⟩
      try simp only [Za,Zb,Zc]
      refine till_only (j:=14) (by kernel_rfl) rfl ?_
      go_wp2_with fail
      have HGE_g11:=Zh (p:=v6.heap.size≤v14.heap.size) (HT.out.size)
      have HT2:=Zh (HT.out.alloc HT.out.size (.cells #[Z O 0,Z O 0] 32))
      have HL7:=Zh (p:=Locs w (v14.alloc (.cells #[Z O 0,Z O 0] 32)) [(gy,24,[Z O bef,Z O aft,Zl ya yn yc]),(gs,36,Zl (some ⟨gp,0,none⟩) tn tc :: accCells acc),(gd,55,[Z O 7,Z O day,Zs code,Zs aA,Z O al,Z O ah,Z O bl,Z O bh]),(gx,49,[Zs xc,Z O dl,Z O dh,Z O wl,Z O wh,Z O pil,Z O boi,Zl fa fn fc]),(g12,32,[Z O 0,Z O 0]),(v14.heap.size,32,[Z O 0,Z O 0])] []) (HL6.out.alloc 32 [Z O 0,Z O 0] rfl)
      clear HL6 HT
      generalize World.alloc _ _=v15 at HL7 HT2 ⊢
      have HT:=HT2;clear HT2
      generalize v14.heap.size=g11 at HL7 HGE_g11 ⊢
      refine⟨(fun _=>HT.out),?_⟩
      try simp only [Za,Zb,Zc]
      refine till_only (j:=16) (by kernel_rfl) rfl ?_
      refine Zw rfl 32 (.tmp 11) (.tmp 130) rfl (g11) 0 _ rfl rfl (HL7.out.there 5 (o:=0) (n:=2) rfl (Zn rfl)) size_bounds (by simp [Value.oneCell']) ?_
      change wpList _ _ _ _ _ (v15.setCells g11 0 [Z O u0,Z O u1])
      have HT2:=Zh (below_setCells HT.out (HGE_g11.out) [Z O u0,Z O u1] 0)
      have HL8:=Zh (p:=Locs w (v15.setCells g11 0 [Z O u0,Z O u1]) [(gy,24,[Z O bef,Z O aft,Zl ya yn yc]),(gs,36,Zl (some ⟨gp,0,none⟩) tn tc :: accCells acc),(gd,55,[Z O 7,Z O day,Zs code,Zs aA,Z O al,Z O ah,Z O bl,Z O bh]),(gx,49,[Zs xc,Z O dl,Z O dh,Z O wl,Z O wh,Z O pil,Z O boi,Zl fa fn fc]),(g12,32,[Z O 0,Z O 0]),(g11,32,[Z O u0,Z O u1])] []) (HL7.out.put 5 0 _ rfl)
      clear HL7 HT
      generalize World.setCells _ _ _ _=v16 at HL8 HT2 ⊢
      have HT:=HT2;clear HT2
      change Till _ _ _ _∧wpAnyT _ _ _ _ _ _ _ _ _ _
      refine⟨(fun _=>HT.out),?_⟩
      try simp only [Za,Zb,Zc]
      refine till_only (j:=17) (by kernel_rfl) rfl ?_
      refine Zw rfl 32 (.tmp 12) (.tmp 137) rfl (g12) 0 _ rfl rfl (HL8.out.there 4 (o:=0) (n:=2) rfl (Zn rfl)) size_bounds (by simp [Value.oneCell']) ?_
      change wpList _ _ _ _ _ (v16.setCells g12 0 [Z O v0,Z O v1])
      have HT2:=Zh (below_setCells HT.out (HGE_g12.out) [Z O v0,Z O v1] 0)
      have HL9:=Zh (p:=Locs w (v16.setCells g12 0 [Z O v0,Z O v1]) [(gy,24,[Z O bef,Z O aft,Zl ya yn yc]),(gs,36,Zl (some ⟨gp,0,none⟩) tn tc :: accCells acc),(gd,55,[Z O 7,Z O day,Zs code,Zs aA,Z O al,Z O ah,Z O bl,Z O bh]),(gx,49,[Zs xc,Z O dl,Z O dh,Z O wl,Z O wh,Z O pil,Z O boi,Zl fa fn fc]),(g12,32,[Z O v0,Z O v1]),(g11,32,[Z O u0,Z O u1])] []) (HL8.out.put 4 0 _ rfl)
      clear HL8 HT
      generalize World.setCells _ _ _ _=v17 at HL9 HT2 ⊢
      have HT:=HT2;clear HT2
      change Till _ _ _ _∧wpAnyT _ _ _ _ _ _ _ _ _ _
      refine⟨(fun _=>HT.out),?_⟩
      try simp only [Za,Zb,Zc]
      refine till_done (by kernel_rfl) ?_
      go_wp2_with fail
      go_meet
      case rel=>exact⟨_,_,rfl,rfl,Zh (HL9.out.perm (perm_last_two _ _ _ _ _ _))⟩
    ·go_wp2_with fail
     have HGE_g11:=Zh (p:=v6.heap.size≤v8.heap.size) (HT.out.size)
     have HT2:=Zh (HT.out.alloc HT.out.size (.cells #[Z O 0,Z O 0] 32))
     have HL5:=Zh (p:=Locs w (v8.alloc (.cells #[Z O 0,Z O 0] 32)) [(gy,24,[Z O bef,Z O aft,Zl ya yn yc]),(gs,36,Zl (some ⟨gp,0,none⟩) tn tc :: accCells acc),(gd,55,[Z O 7,Z O day,Zs code,Zs aA,Z O al,Z O ah,Z O bl,Z O bh]),(gx,49,[Zs xc,Z O dl,Z O dh,Z O wl,Z O wh,Z O pil,Z O boi,Zl fa fn fc]),(v8.heap.size,32,[Z O 0,Z O 0])] []) (HL4.out.alloc 32 [Z O 0,Z O 0] rfl)
     clear HL4 HT
     generalize World.alloc _ _=v18 at HL5 HT2 ⊢
     have HT:=HT2;clear HT2
     generalize v8.heap.size=g11 at HL5 HGE_g11 ⊢
     refine⟨(fun _=>HT.out),?_⟩
     try simp only [Za,Zb,Zc]
     refine till_two (i:=13) (j:=15) (by kernel_rfl) rfl rfl ?_ ?_
     ·go_wp2_with (go_at_call 69;refine(HWW.out _).mono ?_;rintro e v19 ⟨rfl,hb⟩;have HL6:=Zh (HL5.out.below hb);have HT:=Zh (HT.out.trans (hb.mono HT.out.size));clear hb)
      refine⟨(fun _=>HT.out),?_⟩
      try simp only [Za,Zb,Zc]
      refine till_only (j:=15) (by kernel_rfl) rfl ?_
      go_wp2_with fail
      have HGE_g12:=Zh (p:=v6.heap.size≤v19.heap.size) (HT.out.size)
      have HT2:=Zh (HT.out.alloc HT.out.size (.cells #[Z O 0,Z O 0] 32))
      have HL7:=Zh (p:=Locs w (v19.alloc (.cells #[Z O 0,Z O 0] 32)) [(gy,24,[Z O bef,Z O aft,Zl ya yn yc]),(gs,36,Zl (some ⟨gp,0,none⟩) tn tc :: accCells acc),(gd,55,[Z O 7,Z O day,Zs code,Zs aA,Z O al,Z O ah,Z O bl,Z O bh]),(gx,49,[Zs xc,Z O dl,Z O dh,Z O wl,Z O wh,Z O pil,Z O boi,Zl fa fn fc]),(g11,32,[Z O 0,Z O 0]),(v19.heap.size,32,[Z O 0,Z O 0])] []) (HL6.out.alloc 32 [Z O 0,Z O 0] rfl)
      clear HL6 HT
      generalize World.alloc _ _=v20 at HL7 HT2 ⊢
      have HT:=HT2;clear HT2
      generalize v19.heap.size=g12 at HL7 HGE_g12 ⊢
      refine⟨(fun _=>HT.out),?_⟩
      try simp only [Za,Zb,Zc]
      refine till_only (j:=16) (by kernel_rfl) rfl ?_
      refine Zw rfl 32 (.tmp 11) (.tmp 130) rfl (g11) 0 _ rfl rfl (HL7.out.there 4 (o:=0) (n:=2) rfl (Zn rfl)) size_bounds (by simp [Value.oneCell']) ?_
      change wpList _ _ _ _ _ (v20.setCells g11 0 [Z O u0,Z O u1])
      have HT2:=Zh (below_setCells HT.out (HGE_g11.out) [Z O u0,Z O u1] 0)
      have HL8:=Zh (p:=Locs w (v20.setCells g11 0 [Z O u0,Z O u1]) [(gy,24,[Z O bef,Z O aft,Zl ya yn yc]),(gs,36,Zl (some ⟨gp,0,none⟩) tn tc :: accCells acc),(gd,55,[Z O 7,Z O day,Zs code,Zs aA,Z O al,Z O ah,Z O bl,Z O bh]),(gx,49,[Zs xc,Z O dl,Z O dh,Z O wl,Z O wh,Z O pil,Z O boi,Zl fa fn fc]),(g11,32,[Z O u0,Z O u1]),(g12,32,[Z O 0,Z O 0])] []) (HL7.out.put 4 0 _ rfl)
      clear HL7 HT
      generalize World.setCells _ _ _ _=v21 at HL8 HT2 ⊢
      have HT:=HT2;clear HT2
      change Till _ _ _ _∧wpAnyT _ _ _ _ _ _ _ _ _ _
      refine⟨(fun _=>HT.out),?_⟩
      try simp only [Za,Zb,Zc]
      refine till_only (j:=17) (by kernel_rfl) rfl ?_
      refine Zw rfl 32 (.tmp 12) (.tmp 137) rfl (g12) 0 _ rfl rfl (HL8.out.there 5 (o:=0) (n:=2) rfl (Zn rfl)) size_bounds (by simp [Value.oneCell']) ?_
      change wpList _ _ _ _ _ (v21.setCells g12 0 [Z O v0,Z O v1])
      have HT2:=Zh (below_setCells HT.out (HGE_g12.out) [Z O v0,Z O v1] 0)
      have HL9:=Zh (p:=Locs w (v21.setCells g12 0 [Z O v0,Z O v1]) [(gy,24,[Z O bef,Z O aft,Zl ya yn yc]),(gs,36,Zl (some ⟨gp,0,none⟩) tn tc :: accCells acc),(gd,55,[Z O 7,Z O day,Zs code,Zs aA,Z O al,Z O ah,Z O bl,Z O bh]),(gx,49,[Zs xc,Z O dl,Z O dh,Z O wl,Z O wh,Z O pil,Z O boi,Zl fa fn fc]),(g11,32,[Z O u0,Z O u1]),(g12,32,[Z O v0,Z O v1])] []) (HL8.out.put 5 0 _ rfl)
      clear HL8 HT
      generalize World.setCells _ _ _ _=v22 at HL9 HT2 ⊢
      have HT:=HT2;clear HT2
      change Till _ _ _ _∧wpAnyT _ _ _ _ _ _ _ _ _ _
      refine⟨(fun _=>HT.out),?_⟩
      try simp only [Za,Zb,Zc]
      refine till_done (by kernel_rfl) ?_
      go_wp2_with fail
      go_meet
      case rel=>exact⟨_,_,rfl,rfl,HL9⟩
     ·go_wp2_with fail
      have HGE_g12:=Zh (p:=v6.heap.size≤v18.heap.size) (HT.out.size)
      have HT2:=Zh (HT.out.alloc HT.out.size (.cells #[Z O 0,Z O 0] 32))
      have HL6:=Zh (p:=Locs w (v18.alloc (.cells #[Z O 0,Z O 0] 32)) [(gy,24,[Z O bef,Z O aft,Zl ya yn yc]),(gs,36,Zl (some ⟨gp,0,none⟩) tn tc :: accCells acc),(gd,55,[Z O 7,Z O day,Zs code,Zs aA,Z O al,Z O ah,Z O bl,Z O bh]),(gx,49,[Zs xc,Z O dl,Z O dh,Z O wl,Z O wh,Z O pil,Z O boi,Zl fa fn fc]),(g11,32,[Z O 0,Z O 0]),(v18.heap.size,32,[Z O 0,Z O 0])] []) (HL5.out.alloc 32 [Z O 0,Z O 0] rfl)
      clear HL5 HT
      generalize World.alloc _ _=v23 at HL6 HT2 ⊢
      have HT:=HT2;clear HT2
      generalize v18.heap.size=g12 at HL6 HGE_g12 ⊢
      refine⟨(fun _=>HT.out),?_⟩
      try simp only [Za,Zb,Zc]
      refine till_only (j:=13) (by kernel_rfl) rfl ?_
      go_wp2_with (go_at_call 69;refine(HWW.out _).mono ?_;rintro e v24 ⟨rfl,hb⟩;have HL7:=Zh (HL6.out.below hb);have HT:=Zh (HT.out.trans (hb.mono HT.out.size));clear hb)
      refine⟨(fun _=>HT.out),?_⟩
      try simp only [Za,Zb,Zc]
      refine till_only (j:=16) (by kernel_rfl) rfl ?_
      refine Zw rfl 32 (.tmp 11) (.tmp 130) rfl (g11) 0 _ rfl rfl (HL7.out.there 4 (o:=0) (n:=2) rfl (Zn rfl)) size_bounds (by simp [Value.oneCell']) ?_
      change wpList _ _ _ _ _ (v24.setCells g11 0 [Z O u0,Z O u1])
      have HT2:=Zh (below_setCells HT.out (HGE_g11.out) [Z O u0,Z O u1] 0)
      have HL8:=Zh (p:=Locs w (v24.setCells g11 0 [Z O u0,Z O u1]) [(gy,24,[Z O bef,Z O aft,Zl ya yn yc]),(gs,36,Zl (some ⟨gp,0,none⟩) tn tc :: accCells acc),(gd,55,[Z O 7,Z O day,Zs code,Zs aA,Z O al,Z O ah,Z O bl,Z O bh]),(gx,49,[Zs xc,Z O dl,Z O dh,Z O wl,Z O wh,Z O pil,Z O boi,Zl fa fn fc]),(g11,32,[Z O u0,Z O u1]),(g12,32,[Z O 0,Z O 0])] []) (HL7.out.put 4 0 _ rfl)
      clear HL7 HT
      generalize World.setCells _ _ _ _=v25 at HL8 HT2 ⊢
      have HT:=HT2;clear HT2
      change Till _ _ _ _∧wpAnyT _ _ _ _ _ _ _ _ _ _
      refine⟨(fun _=>HT.out),?_⟩
      try simp only [Za,Zb,Zc]
      refine till_only (j:=17) (by kernel_rfl) rfl ?_
      refine Zw rfl 32 (.tmp 12) (.tmp 137) rfl (g12) 0 _ rfl rfl (HL8.out.there 5 (o:=0) (n:=2) rfl (Zn rfl)) size_bounds (by simp [Value.oneCell']) ?_
      change wpList _ _ _ _ _ (v25.setCells g12 0 [Z O v0,Z O v1])
      have HT2:=Zh (below_setCells HT.out (HGE_g12.out) [Z O v0,Z O v1] 0)
      have HL9:=Zh (p:=Locs w (v25.setCells g12 0 [Z O v0,Z O v1]) [(gy,24,[Z O bef,Z O aft,Zl ya yn yc]),(gs,36,Zl (some ⟨gp,0,none⟩) tn tc :: accCells acc),(gd,55,[Z O 7,Z O day,Zs code,Zs aA,Z O al,Z O ah,Z O bl,Z O bh]),(gx,49,[Zs xc,Z O dl,Z O dh,Z O wl,Z O wh,Z O pil,Z O boi,Zl fa fn fc]),(g11,32,[Z O u0,Z O u1]),(g12,32,[Z O v0,Z O v1])] []) (HL8.out.put 5 0 _ rfl)
      clear HL8 HT
      generalize World.setCells _ _ _ _=v26 at HL9 HT2 ⊢
      have HT:=HT2;clear HT2
      change Till _ _ _ _∧wpAnyT _ _ _ _ _ _ _ _ _ _
      refine⟨(fun _=>HT.out),?_⟩
      try simp only [Za,Zb,Zc]
      refine till_done (by kernel_rfl) ?_
      go_wp2_with fail
      go_meet
      case rel=>exact⟨_,_,rfl,rfl,HL9⟩
    ·go_wp2_with fail
     have HGE_g12:=Zh (p:=v6.heap.size≤v8.heap.size) (HT.out.size)
     have HT2:=Zh (HT.out.alloc HT.out.size (.cells #[Z O 0,Z O 0] 32))
     have HL5:=Zh (p:=Locs w (v8.alloc (.cells #[Z O 0,Z O 0] 32)) [(gy,24,[Z O bef,Z O aft,Zl ya yn yc]),(gs,36,Zl (some ⟨gp,0,none⟩) tn tc :: accCells acc),(gd,55,[Z O 7,Z O day,Zs code,Zs aA,Z O al,Z O ah,Z O bl,Z O bh]),(gx,49,[Zs xc,Z O dl,Z O dh,Z O wl,Z O wh,Z O pil,Z O boi,Zl fa fn fc]),(v8.heap.size,32,[Z O 0,Z O 0])] []) (HL4.out.alloc 32 [Z O 0,Z O 0] rfl)
     clear HL4 HT
     generalize World.alloc _ _=v27 at HL5 HT2 ⊢
     have HT:=HT2;clear HT2
     generalize v8.heap.size=g12 at HL5 HGE_g12 ⊢
     refine⟨(fun _=>HT.out),?_⟩
     try simp only [Za,Zb,Zc]
     refine till_two (i:=13) (j:=14) (by kernel_rfl) rfl rfl ?_ ?_
     ·go_wp2_with (go_at_call 69;refine(HWW.out _).mono ?_;rintro e v28 ⟨rfl,hb⟩;have HL6:=Zh (HL5.out.below hb);have HT:=Zh (HT.out.trans (hb.mono HT.out.size));clear hb)
      refine⟨(fun _=>HT.out),?_⟩
      try simp only [Za,Zb,Zc]
      refine till_only (j:=14) (by kernel_rfl) rfl ?_
      go_wp2_with fail
      have HGE_g11:=Zh (p:=v6.heap.size≤v28.heap.size) (HT.out.size)
      have HT2:=Zh (HT.out.alloc HT.out.size (.cells #[Z O 0,Z O 0] 32))
      have HL7:=Zh (p:=Locs w (v28.alloc (.cells #[Z O 0,Z O 0] 32)) [(gy,24,[Z O bef,Z O aft,Zl ya yn yc]),(gs,36,Zl (some ⟨gp,0,none⟩) tn tc :: accCells acc),(gd,55,[Z O 7,Z O day,Zs code,Zs aA,Z O al,Z O ah,Z O bl,Z O bh]),(gx,49,[Zs xc,Z O dl,Z O dh,Z O wl,Z O wh,Z O pil,Z O boi,Zl fa fn fc]),(g12,32,[Z O 0,Z O 0]),(v28.heap.size,32,[Z O 0,Z O 0])] []) (HL6.out.alloc 32 [Z O 0,Z O 0] rfl)
      clear HL6 HT
      generalize World.alloc _ _=v29 at HL7 HT2 ⊢
      have HT:=HT2;clear HT2
      generalize v28.heap.size=g11 at HL7 HGE_g11 ⊢
      refine⟨(fun _=>HT.out),?_⟩
      try simp only [Za,Zb,Zc]
      refine till_only (j:=16) (by kernel_rfl) rfl ?_
      refine Zw rfl 32 (.tmp 11) (.tmp 130) rfl (g11) 0 _ rfl rfl (HL7.out.there 5 (o:=0) (n:=2) rfl (Zn rfl)) size_bounds (by simp [Value.oneCell']) ?_
      change wpList _ _ _ _ _ (v29.setCells g11 0 [Z O u0,Z O u1])
      have HT2:=Zh (below_setCells HT.out (HGE_g11.out) [Z O u0,Z O u1] 0)
      have HL8:=Zh (p:=Locs w (v29.setCells g11 0 [Z O u0,Z O u1]) [(gy,24,[Z O bef,Z O aft,Zl ya yn yc]),(gs,36,Zl (some ⟨gp,0,none⟩) tn tc :: accCells acc),(gd,55,[Z O 7,Z O day,Zs code,Zs aA,Z O al,Z O ah,Z O bl,Z O bh]),(gx,49,[Zs xc,Z O dl,Z O dh,Z O wl,Z O wh,Z O pil,Z O boi,Zl fa fn fc]),(g12,32,[Z O 0,Z O 0]),(g11,32,[Z O u0,Z O u1])] []) (HL7.out.put 5 0 _ rfl)
      clear HL7 HT
      generalize World.setCells _ _ _ _=v30 at HL8 HT2 ⊢
      have HT:=HT2;clear HT2
      change Till _ _ _ _∧wpAnyT _ _ _ _ _ _ _ _ _ _
      refine⟨(fun _=>HT.out),?_⟩
      try simp only [Za,Zb,Zc]
      refine till_only (j:=17) (by kernel_rfl) rfl ?_
      refine Zw rfl 32 (.tmp 12) (.tmp 137) rfl (g12) 0 _ rfl rfl (HL8.out.there 4 (o:=0) (n:=2) rfl (Zn rfl)) size_bounds (by simp [Value.oneCell']) ?_
      change wpList _ _ _ _ _ (v30.setCells g12 0 [Z O v0,Z O v1])
      have HT2:=Zh (below_setCells HT.out (HGE_g12.out) [Z O v0,Z O v1] 0)
      have HL9:=Zh (p:=Locs w (v30.setCells g12 0 [Z O v0,Z O v1]) [(gy,24,[Z O bef,Z O aft,Zl ya yn yc]),(gs,36,Zl (some ⟨gp,0,none⟩) tn tc :: accCells acc),(gd,55,[Z O 7,Z O day,Zs code,Zs aA,Z O al,Z O ah,Z O bl,Z O bh]),(gx,49,[Zs xc,Z O dl,Z O dh,Z O wl,Z O wh,Z O pil,Z O boi,Zl fa fn fc]),(g12,32,[Z O v0,Z O v1]),(g11,32,[Z O u0,Z O u1])] []) (HL8.out.put 4 0 _ rfl)
      clear HL8 HT
      generalize World.setCells _ _ _ _=v31 at HL9 HT2 ⊢
      have HT:=HT2;clear HT2
      change Till _ _ _ _∧wpAnyT _ _ _ _ _ _ _ _ _ _
      refine⟨(fun _=>HT.out),?_⟩
      try simp only [Za,Zb,Zc]
      refine till_done (by kernel_rfl) ?_
      go_wp2_with fail
      go_meet
      case rel=>exact⟨_,_,rfl,rfl,Zh (HL9.out.perm (perm_last_two _ _ _ _ _ _))⟩
     ·go_wp2_with fail
      have HGE_g11:=Zh (p:=v6.heap.size≤v27.heap.size) (HT.out.size)
      have HT2:=Zh (HT.out.alloc HT.out.size (.cells #[Z O 0,Z O 0] 32))
      have HL6:=Zh (p:=Locs w (v27.alloc (.cells #[Z O 0,Z O 0] 32)) [(gy,24,[Z O bef,Z O aft,Zl ya yn yc]),(gs,36,Zl (some ⟨gp,0,none⟩) tn tc :: accCells acc),(gd,55,[Z O 7,Z O day,Zs code,Zs aA,Z O al,Z O ah,Z O bl,Z O bh]),(gx,49,[Zs xc,Z O dl,Z O dh,Z O wl,Z O wh,Z O pil,Z O boi,Zl fa fn fc]),(g12,32,[Z O 0,Z O 0]),(v27.heap.size,32,[Z O 0,Z O 0])] []) (HL5.out.alloc 32 [Z O 0,Z O 0] rfl)
      clear HL5 HT
      generalize World.alloc _ _=v32 at HL6 HT2 ⊢
      have HT:=HT2;clear HT2
      generalize v27.heap.size=g11 at HL6 HGE_g11 ⊢
      refine⟨(fun _=>HT.out),?_⟩
      try simp only [Za,Zb,Zc]
      refine till_only (j:=13) (by kernel_rfl) rfl ?_
      go_wp2_with (go_at_call 69;refine(HWW.out _).mono ?_;rintro e v33 ⟨rfl,hb⟩;have HL7:=Zh (HL6.out.below hb);have HT:=Zh (HT.out.trans (hb.mono HT.out.size));clear hb)
      refine⟨(fun _=>HT.out),?_⟩
      try simp only [Za,Zb,Zc]
      refine till_only (j:=16) (by kernel_rfl) rfl ?_
      refine Zw rfl 32 (.tmp 11) (.tmp 130) rfl (g11) 0 _ rfl rfl (HL7.out.there 5 (o:=0) (n:=2) rfl (Zn rfl)) size_bounds (by simp [Value.oneCell']) ?_
      change wpList _ _ _ _ _ (v33.setCells g11 0 [Z O u0,Z O u1])
      have HT2:=Zh (below_setCells HT.out (HGE_g11.out) [Z O u0,Z O u1] 0)
      have HL8:=Zh (p:=Locs w (v33.setCells g11 0 [Z O u0,Z O u1]) [(gy,24,[Z O bef,Z O aft,Zl ya yn yc]),(gs,36,Zl (some ⟨gp,0,none⟩) tn tc :: accCells acc),(gd,55,[Z O 7,Z O day,Zs code,Zs aA,Z O al,Z O ah,Z O bl,Z O bh]),(gx,49,[Zs xc,Z O dl,Z O dh,Z O wl,Z O wh,Z O pil,Z O boi,Zl fa fn fc]),(g12,32,[Z O 0,Z O 0]),(g11,32,[Z O u0,Z O u1])] []) (HL7.out.put 5 0 _ rfl)
      clear HL7 HT
      generalize World.setCells _ _ _ _=v34 at HL8 HT2 ⊢
      have HT:=HT2;clear HT2
      change Till _ _ _ _∧wpAnyT _ _ _ _ _ _ _ _ _ _
      refine⟨(fun _=>HT.out),?_⟩
      try simp only [Za,Zb,Zc]
      refine till_only (j:=17) (by kernel_rfl) rfl ?_
      refine Zw rfl 32 (.tmp 12) (.tmp 137) rfl (g12) 0 _ rfl rfl (HL8.out.there 4 (o:=0) (n:=2) rfl (Zn rfl)) size_bounds (by simp [Value.oneCell']) ?_
      change wpList _ _ _ _ _ (v34.setCells g12 0 [Z O v0,Z O v1])
      have HT2:=Zh (below_setCells HT.out (HGE_g12.out) [Z O v0,Z O v1] 0)
      have HL9:=Zh (p:=Locs w (v34.setCells g12 0 [Z O v0,Z O v1]) [(gy,24,[Z O bef,Z O aft,Zl ya yn yc]),(gs,36,Zl (some ⟨gp,0,none⟩) tn tc :: accCells acc),(gd,55,[Z O 7,Z O day,Zs code,Zs aA,Z O al,Z O ah,Z O bl,Z O bh]),(gx,49,[Zs xc,Z O dl,Z O dh,Z O wl,Z O wh,Z O pil,Z O boi,Zl fa fn fc]),(g12,32,[Z O v0,Z O v1]),(g11,32,[Z O u0,Z O u1])] []) (HL8.out.put 4 0 _ rfl)
      clear HL8 HT
      generalize World.setCells _ _ _ _=v35 at HL9 HT2 ⊢
      have HT:=HT2;clear HT2
      change Till _ _ _ _∧wpAnyT _ _ _ _ _ _ _ _ _ _
      refine⟨(fun _=>HT.out),?_⟩
      try simp only [Za,Zb,Zc]
      refine till_done (by kernel_rfl) ?_
      go_wp2_with fail
      go_meet
      case rel=>exact⟨_,_,rfl,rfl,Zh (HL9.out.perm (perm_last_two _ _ _ _ _ _))⟩
   ·go_wp2_with fail
    have HGE_g11:=Zh (p:=v6.heap.size≤v7.heap.size) (HT.out.size)
    have HT2:=Zh (HT.out.alloc HT.out.size (.cells #[Z O 0,Z O 0] 32))
    have HL4:=Zh (p:=Locs w (v7.alloc (.cells #[Z O 0,Z O 0] 32)) [(gy,24,[Z O bef,Z O aft,Zl ya yn yc]),(gs,36,Zl (some ⟨gp,0,none⟩) tn tc :: accCells acc),(gd,55,[Z O 7,Z O day,Zs code,Zs aA,Z O al,Z O ah,Z O bl,Z O bh]),(gx,49,[Zs xc,Z O dl,Z O dh,Z O wl,Z O wh,Z O pil,Z O boi,Zl fa fn fc]),(v7.heap.size,32,[Z O 0,Z O 0])] []) (HL3.out.alloc 32 [Z O 0,Z O 0] rfl)
    clear HL3 HT
    generalize World.alloc _ _=v36 at HL4 HT2 ⊢
    have HT:=HT2;clear HT2
    generalize v7.heap.size=g11 at HL4 HGE_g11 ⊢
    refine⟨(fun _=>HT.out),?_⟩
    try simp only [Za,Zb,Zc]
    refine till_two (i:=6) (j:=15) (by kernel_rfl) rfl rfl ?_ ?_
    ·go_wp2_with (go_at_call 69;refine(HWD.out _).mono ?_;rintro e v37 ⟨rfl,hb⟩;have HL5:=Zh (HL4.out.below hb);have HT:=Zh (HT.out.trans (hb.mono HT.out.size));clear hb)
     refine⟨(fun _=>HT.out),?_⟩
     try simp only [Za,Zb,Zc]
     refine till_two (i:=13) (j:=15) (by kernel_rfl) rfl rfl ?_ ?_
     ·go_wp2_with (go_at_call 69;refine(HWW.out _).mono ?_;rintro e v38 ⟨rfl,hb⟩;have HL6:=Zh (HL5.out.below hb);have HT:=Zh (HT.out.trans (hb.mono HT.out.size));clear hb)
      refine⟨(fun _=>HT.out),?_⟩
      try simp only [Za,Zb,Zc]
      refine till_only (j:=15) (by kernel_rfl) rfl ?_
      go_wp2_with fail
      have HGE_g12:=Zh (p:=v6.heap.size≤v38.heap.size) (HT.out.size)
      have HT2:=Zh (HT.out.alloc HT.out.size (.cells #[Z O 0,Z O 0] 32))
      have HL7:=Zh (p:=Locs w (v38.alloc (.cells #[Z O 0,Z O 0] 32)) [(gy,24,[Z O bef,Z O aft,Zl ya yn yc]),(gs,36,Zl (some ⟨gp,0,none⟩) tn tc :: accCells acc),(gd,55,[Z O 7,Z O day,Zs code,Zs aA,Z O al,Z O ah,Z O bl,Z O bh]),(gx,49,[Zs xc,Z O dl,Z O dh,Z O wl,Z O wh,Z O pil,Z O boi,Zl fa fn fc]),(g11,32,[Z O 0,Z O 0]),(v38.heap.size,32,[Z O 0,Z O 0])] []) (HL6.out.alloc 32 [Z O 0,Z O 0] rfl)
      clear HL6 HT
      generalize World.alloc _ _=v39 at HL7 HT2 ⊢
      have HT:=HT2;clear HT2
      generalize v38.heap.size=g12 at HL7 HGE_g12 ⊢
      refine⟨(fun _=>HT.out),?_⟩
      try simp only [Za,Zb,Zc]
      refine till_only (j:=16) (by kernel_rfl) rfl ?_
      refine Zw rfl 32 (.tmp 11) (.tmp 130) rfl (g11) 0 _ rfl rfl (HL7.out.there 4 (o:=0) (n:=2) rfl (Zn rfl)) size_bounds (by simp [Value.oneCell']) ?_
      change wpList _ _ _ _ _ (v39.setCells g11 0 [Z O u0,Z O u1])
      have HT2:=Zh (below_setCells HT.out (HGE_g11.out) [Z O u0,Z O u1] 0)
      have HL8:=Zh (p:=Locs w (v39.setCells g11 0 [Z O u0,Z O u1]) [(gy,24,[Z O bef,Z O aft,Zl ya yn yc]),(gs,36,Zl (some ⟨gp,0,none⟩) tn tc :: accCells acc),(gd,55,[Z O 7,Z O day,Zs code,Zs aA,Z O al,Z O ah,Z O bl,Z O bh]),(gx,49,[Zs xc,Z O dl,Z O dh,Z O wl,Z O wh,Z O pil,Z O boi,Zl fa fn fc]),(g11,32,[Z O u0,Z O u1]),(g12,32,[Z O 0,Z O 0])] []) (HL7.out.put 4 0 _ rfl)
      clear HL7 HT
      generalize World.setCells _ _ _ _=v40 at HL8 HT2 ⊢
      have HT:=HT2;clear HT2
      change Till _ _ _ _∧wpAnyT _ _ _ _ _ _ _ _ _ _
      refine⟨(fun _=>HT.out),?_⟩
      try simp only [Za,Zb,Zc]
      refine till_only (j:=17) (by kernel_rfl) rfl ?_
      refine Zw rfl 32 (.tmp 12) (.tmp 137) rfl (g12) 0 _ rfl rfl (HL8.out.there 5 (o:=0) (n:=2) rfl (Zn rfl)) size_bounds (by simp [Value.oneCell']) ?_
      change wpList _ _ _ _ _ (v40.setCells g12 0 [Z O v0,Z O v1])
      have HT2:=Zh (below_setCells HT.out (HGE_g12.out) [Z O v0,Z O v1] 0)
      have HL9:=Zh (p:=Locs w (v40.setCells g12 0 [Z O v0,Z O v1]) [(gy,24,[Z O bef,Z O aft,Zl ya yn yc]),(gs,36,Zl (some ⟨gp,0,none⟩) tn tc :: accCells acc),(gd,55,[Z O 7,Z O day,Zs code,Zs aA,Z O al,Z O ah,Z O bl,Z O bh]),(gx,49,[Zs xc,Z O dl,Z O dh,Z O wl,Z O wh,Z O pil,Z O boi,Zl fa fn fc]),(g11,32,[Z O u0,Z O u1]),(g12,32,[Z O v0,Z O v1])] []) (HL8.out.put 5 0 _ rfl)
      clear HL8 HT
      generalize World.setCells _ _ _ _=v41 at HL9 HT2 ⊢
      have HT:=HT2;clear HT2
      change Till _ _ _ _∧wpAnyT _ _ _ _ _ _ _ _ _ _
      refine⟨(fun _=>HT.out),?_⟩
      try simp only [Za,Zb,Zc]
      refine till_done (by kernel_rfl) ?_
      go_wp2_with fail
      go_meet
      case rel=>exact⟨_,_,rfl,rfl,HL9⟩
     ·go_wp2_with fail
      have HGE_g12:=Zh (p:=v6.heap.size≤v37.heap.size) (HT.out.size)
      have HT2:=Zh (HT.out.alloc HT.out.size (.cells #[Z O 0,Z O 0] 32))
      have HL6:=Zh (p:=Locs w (v37.alloc (.cells #[Z O 0,Z O 0] 32)) [(gy,24,[Z O bef,Z O aft,Zl ya yn yc]),(gs,36,Zl (some ⟨gp,0,none⟩) tn tc :: accCells acc),(gd,55,[Z O 7,Z O day,Zs code,Zs aA,Z O al,Z O ah,Z O bl,Z O bh]),(gx,49,[Zs xc,Z O dl,Z O dh,Z O wl,Z O wh,Z O pil,Z O boi,Zl fa fn fc]),(g11,32,[Z O 0,Z O 0]),(v37.heap.size,32,[Z O 0,Z O 0])] []) (HL5.out.alloc 32 [Z O 0,Z O 0] rfl)
      clear HL5 HT
      generalize World.alloc _ _=v42 at HL6 HT2 ⊢
      have HT:=HT2;clear HT2
      generalize v37.heap.size=g12 at HL6 HGE_g12 ⊢
      refine⟨(fun _=>HT.out),?_⟩
      try simp only [Za,Zb,Zc]
      refine till_only (j:=13) (by kernel_rfl) rfl ?_
      go_wp2_with (go_at_call 69;refine(HWW.out _).mono ?_;rintro e v43 ⟨rfl,hb⟩;have HL7:=Zh (HL6.out.below hb);have HT:=Zh (HT.out.trans (hb.mono HT.out.size));clear hb)
      refine⟨(fun _=>HT.out),?_⟩
      try simp only [Za,Zb,Zc]
      refine till_only (j:=16) (by kernel_rfl) rfl ?_
      refine Zw rfl 32 (.tmp 11) (.tmp 130) rfl (g11) 0 _ rfl rfl (HL7.out.there 4 (o:=0) (n:=2) rfl (Zn rfl)) size_bounds (by simp [Value.oneCell']) ?_
      change wpList _ _ _ _ _ (v43.setCells g11 0 [Z O u0,Z O u1])
      have HT2:=Zh (below_setCells HT.out (HGE_g11.out) [Z O u0,Z O u1] 0)
      have HL8:=Zh (p:=Locs w (v43.setCells g11 0 [Z O u0,Z O u1]) [(gy,24,[Z O bef,Z O aft,Zl ya yn yc]),(gs,36,Zl (some ⟨gp,0,none⟩) tn tc :: accCells acc),(gd,55,[Z O 7,Z O day,Zs code,Zs aA,Z O al,Z O ah,Z O bl,Z O bh]),(gx,49,[Zs xc,Z O dl,Z O dh,Z O wl,Z O wh,Z O pil,Z O boi,Zl fa fn fc]),(g11,32,[Z O u0,Z O u1]),(g12,32,[Z O 0,Z O 0])] []) (HL7.out.put 4 0 _ rfl)
      clear HL7 HT
      generalize World.setCells _ _ _ _=v44 at HL8 HT2 ⊢
      have HT:=HT2;clear HT2
      change Till _ _ _ _∧wpAnyT _ _ _ _ _ _ _ _ _ _
      refine⟨(fun _=>HT.out),?_⟩
      try simp only [Za,Zb,Zc]
      refine till_only (j:=17) (by kernel_rfl) rfl ?_
      refine Zw rfl 32 (.tmp 12) (.tmp 137) rfl (g12) 0 _ rfl rfl (HL8.out.there 5 (o:=0) (n:=2) rfl (Zn rfl)) size_bounds (by simp [Value.oneCell']) ?_
      change wpList _ _ _ _ _ (v44.setCells g12 0 [Z O v0,Z O v1])
      have HT2:=Zh (below_setCells HT.out (HGE_g12.out) [Z O v0,Z O v1] 0)
      have HL9:=Zh (p:=Locs w (v44.setCells g12 0 [Z O v0,Z O v1]) [(gy,24,[Z O bef,Z O aft,Zl ya yn yc]),(gs,36,Zl (some ⟨gp,0,none⟩) tn tc :: accCells acc),(gd,55,[Z O 7,Z O day,Zs code,Zs aA,Z O al,Z O ah,Z O bl,Z O bh]),(gx,49,[Zs xc,Z O dl,Z O dh,Z O wl,Z O wh,Z O pil,Z O boi,Zl fa fn fc]),(g11,32,[Z O u0,Z O u1]),(g12,32,[Z O v0,Z O v1])] []) (HL8.out.put 5 0 _ rfl)
      clear HL8 HT
      generalize World.setCells _ _ _ _=v45 at HL9 HT2 ⊢
      have HT:=HT2;clear HT2
      change Till _ _ _ _∧wpAnyT _ _ _ _ _ _ _ _ _ _
      refine⟨(fun _=>HT.out),?_⟩
      try simp only [Za,Zb,Zc]
      refine till_done (by kernel_rfl) ?_
      go_wp2_with fail
      go_meet
      case rel=>exact⟨_,_,rfl,rfl,HL9⟩
    ·go_wp2_with fail
     have HGE_g12:=Zh (p:=v6.heap.size≤v36.heap.size) (HT.out.size)
     have HT2:=Zh (HT.out.alloc HT.out.size (.cells #[Z O 0,Z O 0] 32))
     have HL5:=Zh (p:=Locs w (v36.alloc (.cells #[Z O 0,Z O 0] 32)) [(gy,24,[Z O bef,Z O aft,Zl ya yn yc]),(gs,36,Zl (some ⟨gp,0,none⟩) tn tc :: accCells acc),(gd,55,[Z O 7,Z O day,Zs code,Zs aA,Z O al,Z O ah,Z O bl,Z O bh]),(gx,49,[Zs xc,Z O dl,Z O dh,Z O wl,Z O wh,Z O pil,Z O boi,Zl fa fn fc]),(g11,32,[Z O 0,Z O 0]),(v36.heap.size,32,[Z O 0,Z O 0])] []) (HL4.out.alloc 32 [Z O 0,Z O 0] rfl)
     clear HL4 HT
     generalize World.alloc _ _=v46 at HL5 HT2 ⊢
     have HT:=HT2;clear HT2
     generalize v36.heap.size=g12 at HL5 HGE_g12 ⊢
     refine⟨(fun _=>HT.out),?_⟩
     try simp only [Za,Zb,Zc]
     refine till_only (j:=6) (by kernel_rfl) rfl ?_
     go_wp2_with (go_at_call 69;refine(HWD.out _).mono ?_;rintro e v47 ⟨rfl,hb⟩;have HL6:=Zh (HL5.out.below hb);have HT:=Zh (HT.out.trans (hb.mono HT.out.size));clear hb)
     refine⟨(fun _=>HT.out),?_⟩
     try simp only [Za,Zb,Zc]
     refine till_only (j:=13) (by kernel_rfl) rfl ?_
     go_wp2_with (go_at_call 69;refine(HWW.out _).mono ?_;rintro e v48 ⟨rfl,hb⟩;have HL7:=Zh (HL6.out.below hb);have HT:=Zh (HT.out.trans (hb.mono HT.out.size));clear hb)
     refine⟨(fun _=>HT.out),?_⟩
     try simp only [Za,Zb,Zc]
     refine till_only (j:=16) (by kernel_rfl) rfl ?_
     refine Zw rfl 32 (.tmp 11) (.tmp 130) rfl (g11) 0 _ rfl rfl (HL7.out.there 4 (o:=0) (n:=2) rfl (Zn rfl)) size_bounds (by simp [Value.oneCell']) ?_
     change wpList _ _ _ _ _ (v48.setCells g11 0 [Z O u0,Z O u1])
     have HT2:=Zh (below_setCells HT.out (HGE_g11.out) [Z O u0,Z O u1] 0)
     have HL8:=Zh (p:=Locs w (v48.setCells g11 0 [Z O u0,Z O u1]) [(gy,24,[Z O bef,Z O aft,Zl ya yn yc]),(gs,36,Zl (some ⟨gp,0,none⟩) tn tc :: accCells acc),(gd,55,[Z O 7,Z O day,Zs code,Zs aA,Z O al,Z O ah,Z O bl,Z O bh]),(gx,49,[Zs xc,Z O dl,Z O dh,Z O wl,Z O wh,Z O pil,Z O boi,Zl fa fn fc]),(g11,32,[Z O u0,Z O u1]),(g12,32,[Z O 0,Z O 0])] []) (HL7.out.put 4 0 _ rfl)
     clear HL7 HT
     generalize World.setCells _ _ _ _=v49 at HL8 HT2 ⊢
     have HT:=HT2;clear HT2
     change Till _ _ _ _∧wpAnyT _ _ _ _ _ _ _ _ _ _
     refine⟨(fun _=>HT.out),?_⟩
     try simp only [Za,Zb,Zc]
     refine till_only (j:=17) (by kernel_rfl) rfl ?_
     refine Zw rfl 32 (.tmp 12) (.tmp 137) rfl (g12) 0 _ rfl rfl (HL8.out.there 5 (o:=0) (n:=2) rfl (Zn rfl)) size_bounds (by simp [Value.oneCell']) ?_
     change wpList _ _ _ _ _ (v49.setCells g12 0 [Z O v0,Z O v1])
     have HT2:=Zh (below_setCells HT.out (HGE_g12.out) [Z O v0,Z O v1] 0)
     have HL9:=Zh (p:=Locs w (v49.setCells g12 0 [Z O v0,Z O v1]) [(gy,24,[Z O bef,Z O aft,Zl ya yn yc]),(gs,36,Zl (some ⟨gp,0,none⟩) tn tc :: accCells acc),(gd,55,[Z O 7,Z O day,Zs code,Zs aA,Z O al,Z O ah,Z O bl,Z O bh]),(gx,49,[Zs xc,Z O dl,Z O dh,Z O wl,Z O wh,Z O pil,Z O boi,Zl fa fn fc]),(g11,32,[Z O u0,Z O u1]),(g12,32,[Z O v0,Z O v1])] []) (HL8.out.put 5 0 _ rfl)
     clear HL8 HT
     generalize World.setCells _ _ _ _=v50 at HL9 HT2 ⊢
     have HT:=HT2;clear HT2
     change Till _ _ _ _∧wpAnyT _ _ _ _ _ _ _ _ _ _
     refine⟨(fun _=>HT.out),?_⟩
     try simp only [Za,Zb,Zc]
     refine till_done (by kernel_rfl) ?_
     go_wp2_with fail
     go_meet
     case rel=>exact⟨_,_,rfl,rfl,HL9⟩
   ·go_wp2_with fail
    have HGE_g12:=Zh (p:=v6.heap.size≤v7.heap.size) (HT.out.size)
    have HT2:=Zh (HT.out.alloc HT.out.size (.cells #[Z O 0,Z O 0] 32))
    have HL4:=Zh (p:=Locs w (v7.alloc (.cells #[Z O 0,Z O 0] 32)) [(gy,24,[Z O bef,Z O aft,Zl ya yn yc]),(gs,36,Zl (some ⟨gp,0,none⟩) tn tc :: accCells acc),(gd,55,[Z O 7,Z O day,Zs code,Zs aA,Z O al,Z O ah,Z O bl,Z O bh]),(gx,49,[Zs xc,Z O dl,Z O dh,Z O wl,Z O wh,Z O pil,Z O boi,Zl fa fn fc]),(v7.heap.size,32,[Z O 0,Z O 0])] []) (HL3.out.alloc 32 [Z O 0,Z O 0] rfl)
    clear HL3 HT
    generalize World.alloc _ _=v51 at HL4 HT2 ⊢
    have HT:=HT2;clear HT2
    generalize v7.heap.size=g12 at HL4 HGE_g12 ⊢
    refine⟨(fun _=>HT.out),?_⟩
    try simp only [Za,Zb,Zc]
    refine till_two (i:=6) (j:=14) (by kernel_rfl) rfl rfl ?_ ?_
    ·go_wp2_with (go_at_call 69;refine(HWD.out _).mono ?_;rintro e v52 ⟨rfl,hb⟩;have HL5:=Zh (HL4.out.below hb);have HT:=Zh (HT.out.trans (hb.mono HT.out.size));clear hb)
     refine⟨(fun _=>HT.out),?_⟩
     try simp only [Za,Zb,Zc]
     refine till_two (i:=13) (j:=14) (by kernel_rfl) rfl rfl ?_ ?_
     ·go_wp2_with (go_at_call 69;refine(HWW.out _).mono ?_;rintro e v53 ⟨rfl,hb⟩;have HL6:=Zh (HL5.out.below hb);have HT:=Zh (HT.out.trans (hb.mono HT.out.size));clear hb)
      refine⟨(fun _=>HT.out),?_⟩
      try simp only [Za,Zb,Zc]
      refine till_only (j:=14) (by kernel_rfl) rfl ?_
      go_wp2_with fail
      have HGE_g11:=Zh (p:=v6.heap.size≤v53.heap.size) (HT.out.size)
      have HT2:=Zh (HT.out.alloc HT.out.size (.cells #[Z O 0,Z O 0] 32))
      have HL7:=Zh (p:=Locs w (v53.alloc (.cells #[Z O 0,Z O 0] 32)) [(gy,24,[Z O bef,Z O aft,Zl ya yn yc]),(gs,36,Zl (some ⟨gp,0,none⟩) tn tc :: accCells acc),(gd,55,[Z O 7,Z O day,Zs code,Zs aA,Z O al,Z O ah,Z O bl,Z O bh]),(gx,49,[Zs xc,Z O dl,Z O dh,Z O wl,Z O wh,Z O pil,Z O boi,Zl fa fn fc]),(g12,32,[Z O 0,Z O 0]),(v53.heap.size,32,[Z O 0,Z O 0])] []) (HL6.out.alloc 32 [Z O 0,Z O 0] rfl)
      clear HL6 HT
      generalize World.alloc _ _=v54 at HL7 HT2 ⊢
      have HT:=HT2;clear HT2
      generalize v53.heap.size=g11 at HL7 HGE_g11 ⊢
      refine⟨(fun _=>HT.out),?_⟩
      try simp only [Za,Zb,Zc]
      refine till_only (j:=16) (by kernel_rfl) rfl ?_
      refine Zw rfl 32 (.tmp 11) (.tmp 130) rfl (g11) 0 _ rfl rfl (HL7.out.there 5 (o:=0) (n:=2) rfl (Zn rfl)) size_bounds (by simp [Value.oneCell']) ?_
      change wpList _ _ _ _ _ (v54.setCells g11 0 [Z O u0,Z O u1])
      have HT2:=Zh (below_setCells HT.out (HGE_g11.out) [Z O u0,Z O u1] 0)
      have HL8:=Zh (p:=Locs w (v54.setCells g11 0 [Z O u0,Z O u1]) [(gy,24,[Z O bef,Z O aft,Zl ya yn yc]),(gs,36,Zl (some ⟨gp,0,none⟩) tn tc :: accCells acc),(gd,55,[Z O 7,Z O day,Zs code,Zs aA,Z O al,Z O ah,Z O bl,Z O bh]),(gx,49,[Zs xc,Z O dl,Z O dh,Z O wl,Z O wh,Z O pil,Z O boi,Zl fa fn fc]),(g12,32,[Z O 0,Z O 0]),(g11,32,[Z O u0,Z O u1])] []) (HL7.out.put 5 0 _ rfl)
      clear HL7 HT
      generalize World.setCells _ _ _ _=v55 at HL8 HT2 ⊢
      have HT:=HT2;clear HT2
      change Till _ _ _ _∧wpAnyT _ _ _ _ _ _ _ _ _ _
      refine⟨(fun _=>HT.out),?_⟩
      try simp only [Za,Zb,Zc]
      refine till_only (j:=17) (by kernel_rfl) rfl ?_
      refine Zw rfl 32 (.tmp 12) (.tmp 137) rfl (g12) 0 _ rfl rfl (HL8.out.there 4 (o:=0) (n:=2) rfl (Zn rfl)) size_bounds (by simp [Value.oneCell']) ?_
      change wpList _ _ _ _ _ (v55.setCells g12 0 [Z O v0,Z O v1])
      have HT2:=Zh (below_setCells HT.out (HGE_g12.out) [Z O v0,Z O v1] 0)
      have HL9:=Zh (p:=Locs w (v55.setCells g12 0 [Z O v0,Z O v1]) [(gy,24,[Z O bef,Z O aft,Zl ya yn yc]),(gs,36,Zl (some ⟨gp,0,none⟩) tn tc :: accCells acc),(gd,55,[Z O 7,Z O day,Zs code,Zs aA,Z O al,Z O ah,Z O bl,Z O bh]),(gx,49,[Zs xc,Z O dl,Z O dh,Z O wl,Z O wh,Z O pil,Z O boi,Zl fa fn fc]),(g12,32,[Z O v0,Z O v1]),(g11,32,[Z O u0,Z O u1])] []) (HL8.out.put 4 0 _ rfl)
      clear HL8 HT
      generalize World.setCells _ _ _ _=v56 at HL9 HT2 ⊢
      have HT:=HT2;clear HT2
      change Till _ _ _ _∧wpAnyT _ _ _ _ _ _ _ _ _ _
      refine⟨(fun _=>HT.out),?_⟩
      try simp only [Za,Zb,Zc]
      refine till_done (by kernel_rfl) ?_
      go_wp2_with fail
      go_meet
      case rel=>exact⟨_,_,rfl,rfl,Zh (HL9.out.perm (perm_last_two _ _ _ _ _ _))⟩
     ·go_wp2_with fail
      have HGE_g11:=Zh (p:=v6.heap.size≤v52.heap.size) (HT.out.size)
      have HT2:=Zh (HT.out.alloc HT.out.size (.cells #[Z O 0,Z O 0] 32))
      have HL6:=Zh (p:=Locs w (v52.alloc (.cells #[Z O 0,Z O 0] 32)) [(gy,24,[Z O bef,Z O aft,Zl ya yn yc]),(gs,36,Zl (some ⟨gp,0,none⟩) tn tc :: accCells acc),(gd,55,[Z O 7,Z O day,Zs code,Zs aA,Z O al,Z O ah,Z O bl,Z O bh]),(gx,49,[Zs xc,Z O dl,Z O dh,Z O wl,Z O wh,Z O pil,Z O boi,Zl fa fn fc]),(g12,32,[Z O 0,Z O 0]),(v52.heap.size,32,[Z O 0,Z O 0])] []) (HL5.out.alloc 32 [Z O 0,Z O 0] rfl)
      clear HL5 HT
      generalize World.alloc _ _=v57 at HL6 HT2 ⊢
      have HT:=HT2;clear HT2
      generalize v52.heap.size=g11 at HL6 HGE_g11 ⊢
      refine⟨(fun _=>HT.out),?_⟩
      try simp only [Za,Zb,Zc]
      refine till_only (j:=13) (by kernel_rfl) rfl ?_
      go_wp2_with (go_at_call 69;refine(HWW.out _).mono ?_;rintro e v58 ⟨rfl,hb⟩;have HL7:=Zh (HL6.out.below hb);have HT:=Zh (HT.out.trans (hb.mono HT.out.size));clear hb)
      refine⟨(fun _=>HT.out),?_⟩
      try simp only [Za,Zb,Zc]
      refine till_only (j:=16) (by kernel_rfl) rfl ?_
      refine Zw rfl 32 (.tmp 11) (.tmp 130) rfl (g11) 0 _ rfl rfl (HL7.out.there 5 (o:=0) (n:=2) rfl (Zn rfl)) size_bounds (by simp [Value.oneCell']) ?_
      change wpList _ _ _ _ _ (v58.setCells g11 0 [Z O u0,Z O u1])
      have HT2:=Zh (below_setCells HT.out (HGE_g11.out) [Z O u0,Z O u1] 0)
      have HL8:=Zh (p:=Locs w (v58.setCells g11 0 [Z O u0,Z O u1]) [(gy,24,[Z O bef,Z O aft,Zl ya yn yc]),(gs,36,Zl (some ⟨gp,0,none⟩) tn tc :: accCells acc),(gd,55,[Z O 7,Z O day,Zs code,Zs aA,Z O al,Z O ah,Z O bl,Z O bh]),(gx,49,[Zs xc,Z O dl,Z O dh,Z O wl,Z O wh,Z O pil,Z O boi,Zl fa fn fc]),(g12,32,[Z O 0,Z O 0]),(g11,32,[Z O u0,Z O u1])] []) (HL7.out.put 5 0 _ rfl)
      clear HL7 HT
      generalize World.setCells _ _ _ _=v59 at HL8 HT2 ⊢
      have HT:=HT2;clear HT2
      change Till _ _ _ _∧wpAnyT _ _ _ _ _ _ _ _ _ _
      refine⟨(fun _=>HT.out),?_⟩
      try simp only [Za,Zb,Zc]
      refine till_only (j:=17) (by kernel_rfl) rfl ?_
      refine Zw rfl 32 (.tmp 12) (.tmp 137) rfl (g12) 0 _ rfl rfl (HL8.out.there 4 (o:=0) (n:=2) rfl (Zn rfl)) size_bounds (by simp [Value.oneCell']) ?_
      change wpList _ _ _ _ _ (v59.setCells g12 0 [Z O v0,Z O v1])
      have HT2:=Zh (below_setCells HT.out (HGE_g12.out) [Z O v0,Z O v1] 0)
      have HL9:=Zh (p:=Locs w (v59.setCells g12 0 [Z O v0,Z O v1]) [(gy,24,[Z O bef,Z O aft,Zl ya yn yc]),(gs,36,Zl (some ⟨gp,0,none⟩) tn tc :: accCells acc),(gd,55,[Z O 7,Z O day,Zs code,Zs aA,Z O al,Z O ah,Z O bl,Z O bh]),(gx,49,[Zs xc,Z O dl,Z O dh,Z O wl,Z O wh,Z O pil,Z O boi,Zl fa fn fc]),(g12,32,[Z O v0,Z O v1]),(g11,32,[Z O u0,Z O u1])] []) (HL8.out.put 4 0 _ rfl)
      clear HL8 HT
      generalize World.setCells _ _ _ _=v60 at HL9 HT2 ⊢
      have HT:=HT2;clear HT2
      change Till _ _ _ _∧wpAnyT _ _ _ _ _ _ _ _ _ _
      refine⟨(fun _=>HT.out),?_⟩
      try simp only [Za,Zb,Zc]
      refine till_done (by kernel_rfl) ?_
      go_wp2_with fail
      go_meet
      case rel=>exact⟨_,_,rfl,rfl,Zh (HL9.out.perm (perm_last_two _ _ _ _ _ _))⟩
    ·go_wp2_with fail
     have HGE_g11:=Zh (p:=v6.heap.size≤v51.heap.size) (HT.out.size)
     have HT2:=Zh (HT.out.alloc HT.out.size (.cells #[Z O 0,Z O 0] 32))
     have HL5:=Zh (p:=Locs w (v51.alloc (.cells #[Z O 0,Z O 0] 32)) [(gy,24,[Z O bef,Z O aft,Zl ya yn yc]),(gs,36,Zl (some ⟨gp,0,none⟩) tn tc :: accCells acc),(gd,55,[Z O 7,Z O day,Zs code,Zs aA,Z O al,Z O ah,Z O bl,Z O bh]),(gx,49,[Zs xc,Z O dl,Z O dh,Z O wl,Z O wh,Z O pil,Z O boi,Zl fa fn fc]),(g12,32,[Z O 0,Z O 0]),(v51.heap.size,32,[Z O 0,Z O 0])] []) (HL4.out.alloc 32 [Z O 0,Z O 0] rfl)
     clear HL4 HT
     generalize World.alloc _ _=v61 at HL5 HT2 ⊢
     have HT:=HT2;clear HT2
     generalize v51.heap.size=g11 at HL5 HGE_g11 ⊢
     refine⟨(fun _=>HT.out),?_⟩
     try simp only [Za,Zb,Zc]
     refine till_only (j:=6) (by kernel_rfl) rfl ?_
     go_wp2_with (go_at_call 69;refine(HWD.out _).mono ?_;rintro e v62 ⟨rfl,hb⟩;have HL6:=Zh (HL5.out.below hb);have HT:=Zh (HT.out.trans (hb.mono HT.out.size));clear hb)
     refine⟨(fun _=>HT.out),?_⟩
     try simp only [Za,Zb,Zc]
     refine till_only (j:=13) (by kernel_rfl) rfl ?_
     go_wp2_with (go_at_call 69;refine(HWW.out _).mono ?_;rintro e v63 ⟨rfl,hb⟩;have HL7:=Zh (HL6.out.below hb);have HT:=Zh (HT.out.trans (hb.mono HT.out.size));clear hb)
     refine⟨(fun _=>HT.out),?_⟩
     try simp only [Za,Zb,Zc]
     refine till_only (j:=16) (by kernel_rfl) rfl ?_
     refine Zw rfl 32 (.tmp 11) (.tmp 130) rfl (g11) 0 _ rfl rfl (HL7.out.there 5 (o:=0) (n:=2) rfl (Zn rfl)) size_bounds (by simp [Value.oneCell']) ?_
     change wpList _ _ _ _ _ (v63.setCells g11 0 [Z O u0,Z O u1])
     have HT2:=Zh (below_setCells HT.out (HGE_g11.out) [Z O u0,Z O u1] 0)
     have HL8:=Zh (p:=Locs w (v63.setCells g11 0 [Z O u0,Z O u1]) [(gy,24,[Z O bef,Z O aft,Zl ya yn yc]),(gs,36,Zl (some ⟨gp,0,none⟩) tn tc :: accCells acc),(gd,55,[Z O 7,Z O day,Zs code,Zs aA,Z O al,Z O ah,Z O bl,Z O bh]),(gx,49,[Zs xc,Z O dl,Z O dh,Z O wl,Z O wh,Z O pil,Z O boi,Zl fa fn fc]),(g12,32,[Z O 0,Z O 0]),(g11,32,[Z O u0,Z O u1])] []) (HL7.out.put 5 0 _ rfl)
     clear HL7 HT
     generalize World.setCells _ _ _ _=v64 at HL8 HT2 ⊢
     have HT:=HT2;clear HT2
     change Till _ _ _ _∧wpAnyT _ _ _ _ _ _ _ _ _ _
     refine⟨(fun _=>HT.out),?_⟩
     try simp only [Za,Zb,Zc]
     refine till_only (j:=17) (by kernel_rfl) rfl ?_
     refine Zw rfl 32 (.tmp 12) (.tmp 137) rfl (g12) 0 _ rfl rfl (HL8.out.there 4 (o:=0) (n:=2) rfl (Zn rfl)) size_bounds (by simp [Value.oneCell']) ?_
     change wpList _ _ _ _ _ (v64.setCells g12 0 [Z O v0,Z O v1])
     have HT2:=Zh (below_setCells HT.out (HGE_g12.out) [Z O v0,Z O v1] 0)
     have HL9:=Zh (p:=Locs w (v64.setCells g12 0 [Z O v0,Z O v1]) [(gy,24,[Z O bef,Z O aft,Zl ya yn yc]),(gs,36,Zl (some ⟨gp,0,none⟩) tn tc :: accCells acc),(gd,55,[Z O 7,Z O day,Zs code,Zs aA,Z O al,Z O ah,Z O bl,Z O bh]),(gx,49,[Zs xc,Z O dl,Z O dh,Z O wl,Z O wh,Z O pil,Z O boi,Zl fa fn fc]),(g12,32,[Z O v0,Z O v1]),(g11,32,[Z O u0,Z O u1])] []) (HL8.out.put 4 0 _ rfl)
     clear HL8 HT
     generalize World.setCells _ _ _ _=v65 at HL9 HT2 ⊢
     have HT:=HT2;clear HT2
     change Till _ _ _ _∧wpAnyT _ _ _ _ _ _ _ _ _ _
     refine⟨(fun _=>HT.out),?_⟩
     try simp only [Za,Zb,Zc]
     refine till_done (by kernel_rfl) ?_
     go_wp2_with fail
     go_meet
     case rel=>exact⟨_,_,rfl,rfl,Zh (HL9.out.perm (perm_last_two _ _ _ _ _ _))⟩
  case rest =>
   obtain⟨g11,g12,rfl,rfl,HL90⟩:=hcut
   by_cases hw:u1<u0
   ·skip
    have hwd:decide (u1<u0)=true:=by simpa using hw
    have HE:=Zh (show Yd.fault bef aft (stOf aB acc) (⟨7,day,code,aA,⟨al,ah⟩,⟨bl,bh⟩⟩:Deed Code)=5 from by
     rw [(fault_hit (be:=bef) (af:=aft) (acc:=acc) (d:=⟨7,day,code,aA,⟨al,ah⟩,⟨bl,bh⟩⟩) (by simp) HAT.out HKL.out HP.out (by simp))]
     simp [HUV.out.1,HUV.out.2,hw])
    have z0:=HL90.out.at 4 0 (v:=Z O u0) rfl rfl
    have z1:=HL90.out.at 4 1 (v:=Z O u1) rfl rfl
    have z2:=HL90.out.at 5 0 (v:=Z O v0) rfl rfl
    have z3:=HL90.out.at 5 1 (v:=Z O v1) rfl rfl
    go_wp2_with (fail)
    go_ret
    exact⟨by rw [HE.out];rfl,HL90.out.low⟩
   ·skip
    have hv:=hw
    clear hw
    by_cases hw:v1<v0
    ·skip
     have hwd:decide (u1<u0)=false:=by simpa using hv
     have hwe:decide (v1<v0)=true:=by simpa using hw
     have HE:=Zh (show Yd.fault bef aft (stOf aB acc) (⟨7,day,code,aA,⟨al,ah⟩,⟨bl,bh⟩⟩:Deed Code)=5 from by
      rw [(fault_hit (be:=bef) (af:=aft) (acc:=acc) (d:=⟨7,day,code,aA,⟨al,ah⟩,⟨bl,bh⟩⟩) (by simp) HAT.out HKL.out HP.out (by simp))]
      simp [HUV.out.1,HUV.out.2,hw,hv])
     have z0:=HL90.out.at 4 0 (v:=Z O u0) rfl rfl
     have z1:=HL90.out.at 4 1 (v:=Z O u1) rfl rfl
     have z2:=HL90.out.at 5 0 (v:=Z O v0) rfl rfl
     have z3:=HL90.out.at 5 1 (v:=Z O v1) rfl rfl
     go_wp2_with (fail)
     go_ret
     exact⟨by rw [HE.out];rfl,HL90.out.low⟩
    ·skip
     have hwd:decide (u1<u0)=false:=by simpa using hv
     have hwe:decide (v1<v0)=false:=by simpa using hw
     have HE:=Zh (show Yd.fault bef aft (stOf aB acc) (⟨7,day,code,aA,⟨al,ah⟩,⟨bl,bh⟩⟩:Deed Code)=0 from by
      rw [(fault_hit (be:=bef) (af:=aft) (acc:=acc) (d:=⟨7,day,code,aA,⟨al,ah⟩,⟨bl,bh⟩⟩) (by simp) HAT.out HKL.out HP.out (by simp))]
      simp [HUV.out.1,HUV.out.2,hw,hv])
     have z0:=HL90.out.at 4 0 (v:=Z O u0) rfl rfl
     have z1:=HL90.out.at 4 1 (v:=Z O u1) rfl rfl
     have z2:=HL90.out.at 5 0 (v:=Z O v0) rfl rfl
     have z3:=HL90.out.at 5 1 (v:=Z O v1) rfl rfl
     go_wp2_with (fail)
     go_ret
     exact⟨by rw [HE.out];rfl,HL90.out.low⟩
 obtain rfl:kind=8:=by omega
 have q0:=HL1.out.at 0 0 (v:=Z O bef) rfl rfl
 have q1:=HL1.out.at 0 1 (v:=Z O aft) rfl rfl
 have q2:=HL1.out.at 1 0 (v:=Zl ta tn tc) rfl rfl
 have q3:=HL1.out.at 2 0 (v:=Z O 8) rfl rfl
 have q4:=HL1.out.at 2 1 (v:=Z O day) rfl rfl
 have q5:=HL1.out.at 2 2 (v:=Zs code) rfl rfl
 have q6:=HL1.out.at 2 3 (v:=Zs aA) rfl rfl
 have q7:=HL1.out.at 2 4 (v:=Z O al) rfl rfl
 have q8:=HL1.out.at 2 5 (v:=Z O ah) rfl rfl
 have q9:=HL1.out.at 2 6 (v:=Z O bl) rfl rfl
 have q10:=HL1.out.at 2 7 (v:=Z O bh) rfl rfl
 obtain⟨gp,cp,hvp,hgp,hcp,aD⟩:=stk_of (HST.out _ HL1.out.low).things HP.out
 injection hvp with ea en ec
 clear en
 subst ea ec
 have hcn:tn≤tc:=by rw [HTN.out];exact hcp
 obtain⟨fa,fn,fc,hfv⟩:=row_slice ((HST.out _ HL1.out.low).froms p (List.mem_of_getElem? HP.out))
 have hsm:=HS.out.stacks p.1 (List.mem_map_of_mem (List.mem_of_getElem? HP.out))
 obtain⟨⟨xc,⟨dl,dh⟩,⟨wl,wh⟩,pil,boi,src⟩,pv⟩:=p
 simp only at hfv
 subst hfv
 have hcap:=cap_le hi
 have hdl:=hsm.dry;have hwl:=hsm.water;have hpi:=hsm.piled;have hbo:=hsm.boiled
 unfold Bd.Up at hdl hwl
 simp only at hdl hwl hpi hbo
 have hb1:0≤dl∧dl≤2000000000000000∧0≤dh∧dh≤2000000000000000:=by omega
 have hb2:0≤wl∧wl≤2000000000000000∧0≤wh∧wh≤2000000000000000:=by omega
 clear hsm hdl hwl hcap
 have c0:=(show w2.cell? ⟨gp,k*8,none⟩=some (Zs xc)from(aD 0 (by omega)))
 have c1:=(show w2.cell? ⟨gp,k*8+1,none⟩=some (Z O dl)from(aD 1 (by omega)))
 have c2:=(show w2.cell? ⟨gp,k*8+2,none⟩=some (Z O dh)from(aD 2 (by omega)))
 have c3:=(show w2.cell? ⟨gp,k*8+3,none⟩=some (Z O wl)from(aD 3 (by omega)))
 have c4:=(show w2.cell? ⟨gp,k*8+4,none⟩=some (Z O wh)from(aD 4 (by omega)))
 have c5:=(show w2.cell? ⟨gp,k*8+5,none⟩=some (Z O pil)from(aD 5 (by omega)))
 have c6:=(show w2.cell? ⟨gp,k*8+6,none⟩=some (Z O boi)from(aD 6 (by omega)))
 have c7:=(show w2.cell? ⟨gp,k*8+7,none⟩=some (Zl fa fn fc)from(aD 7 (by omega)))
 clear aD hgp hcp
 go_upto_region 10 with(first
  | (go_at_call 58;refine(two_calls _ _).mono ?_;rintro e w' ⟨rfl,rfl⟩;rw [show twoK 8=false from rfl])
  | ((with_reducible refine at_store 49 (.tmp 10) (.tmp 81) ?_);go_must (refine Zw rfl 49 (.tmp 10) (.tmp 81) rfl w2.heap.size 0 _ rfl rfl ((Blk.new w2 49 #[Zs ⟨#[]⟩,Z O 0,Z O 0,Z O 0,Z O 0,Z O 0,Z O 0,Zl none 0 0]).there (o:=0) (n:=8) (Zn rfl)) size_stack ((by simp [Value.oneCell'])) ?_)))
 clear q0 q1 q2 q3 q4 q5 q6 q7 q8 q9 q10 c0 c1 c2 c3 c4 c5 c6 c7
 have HL2:=Zh (p:=Locs w ((w2.alloc (.cells #[Zs ⟨#[]⟩,Z O 0,Z O 0,Z O 0,Z O 0,Z O 0,Z O 0,Zl none 0 0] 49)).setCells w2.heap.size 0 [Zs xc,Z O dl,Z O dh,Z O wl,Z O wh,Z O pil,Z O boi,Zl fa fn fc]) [(gy,24,[Z O bef,Z O aft,Zl ya yn yc]),(gs,36,Zl (some ⟨gp,0,none⟩) tn tc :: accCells acc),(gd,55,[Z O 8,Z O day,Zs code,Zs aA,Z O al,Z O ah,Z O bl,Z O bh]),(w2.heap.size,49,[Zs xc,Z O dl,Z O dh,Z O wl,Z O wh,Z O pil,Z O boi,Zl fa fn fc])] []) ((HL1.out.alloc 49 [Zs ⟨#[]⟩,Z O 0,Z O 0,Z O 0,Z O 0,Z O 0,Z O 0,Zl none 0 0] rfl).setLoc 3 [] [Zs ⟨#[]⟩,Z O 0,Z O 0,Z O 0,Z O 0,Z O 0,Z O 0,Zl none 0 0] [] [Zs xc,Z O dl,Z O dh,Z O wl,Z O wh,Z O pil,Z O boi,Zl fa fn fc] rfl rfl)
 clear HL1
 generalize((w2.alloc (.cells #[Zs ⟨#[]⟩,Z O 0,Z O 0,Z O 0,Z O 0,Z O 0,Z O 0,Zl none 0 0] 49)).setCells w2.heap.size 0 [Zs xc,Z O dl,Z O dh,Z O wl,Z O wh,Z O pil,Z O boi,Zl fa fn fc])=v66 at HL2 ⊢
 generalize w2.heap.size=gx at HL2 ⊢
 try simp only [Act.put]
 by_cases hw:boi<0
 ·skip
  have hwd:decide (boi<0)=true:=by simpa using hw
  have HE:=Zh (show Yd.fault bef aft (stOf aB acc) (⟨8,day,code,aA,⟨al,ah⟩,⟨bl,bh⟩⟩:Deed Code)=3 from by
   rw [(fault_hit (be:=bef) (af:=aft) (acc:=acc) (d:=⟨8,day,code,aA,⟨al,ah⟩,⟨bl,bh⟩⟩) (by simp) HAT.out HKL.out HP.out (by simp))]
   simp [hw])
  have z0:=HL2.out.at 2 0 (v:=Z O 8) rfl rfl
  have z1:=HL2.out.at 2 1 (v:=Z O day) rfl rfl
  have z2:=HL2.out.at 2 4 (v:=Z O al) rfl rfl
  have z3:=HL2.out.at 3 2 (v:=Z O dh) rfl rfl
  have z4:=HL2.out.at 3 6 (v:=Z O boi) rfl rfl
  have z5:=HL2.out.at 0 1 (v:=Z O aft) rfl rfl
  go_wp2_with (fail)
  go_ret
  exact⟨by rw [HE.out];rfl,HL2.out.low⟩
 ·skip
  have hv:=hw
  clear hw
  by_cases hw:day-boi<aft
  ·skip
   have hwd:decide (boi<0)=false:=by simpa using hv
   have hwe:decide (day-boi<aft)=true:=by simpa using hw
   have HE:=Zh (show Yd.fault bef aft (stOf aB acc) (⟨8,day,code,aA,⟨al,ah⟩,⟨bl,bh⟩⟩:Deed Code)=3 from by
    rw [(fault_hit (be:=bef) (af:=aft) (acc:=acc) (d:=⟨8,day,code,aA,⟨al,ah⟩,⟨bl,bh⟩⟩) (by simp) HAT.out HKL.out HP.out (by simp))]
    simp [hw])
   have z0:=HL2.out.at 2 0 (v:=Z O 8) rfl rfl
   have z1:=HL2.out.at 2 1 (v:=Z O day) rfl rfl
   have z2:=HL2.out.at 2 4 (v:=Z O al) rfl rfl
   have z3:=HL2.out.at 3 2 (v:=Z O dh) rfl rfl
   have z4:=HL2.out.at 3 6 (v:=Z O boi) rfl rfl
   have z5:=HL2.out.at 0 1 (v:=Z O aft) rfl rfl
   go_wp2_with (fail)
   go_ret
   exact⟨by rw [HE.out];rfl,HL2.out.low⟩
  ·skip
   have hwd:decide (boi<0)=false:=by simpa using hv
   have hwe:decide (day-boi<aft)=false:=by simpa using hw
   have HE:=Zh (show Yd.fault bef aft (stOf aB acc) (⟨8,day,code,aA,⟨al,ah⟩,⟨bl,bh⟩⟩:Deed Code)=0 from by
    rw [(fault_hit (be:=bef) (af:=aft) (acc:=acc) (d:=⟨8,day,code,aA,⟨al,ah⟩,⟨bl,bh⟩⟩) (by simp) HAT.out HKL.out HP.out (by simp))]
    simp [hw,hv])
   have z0:=HL2.out.at 2 0 (v:=Z O 8) rfl rfl
   have z1:=HL2.out.at 2 1 (v:=Z O day) rfl rfl
   have z2:=HL2.out.at 2 4 (v:=Z O al) rfl rfl
   have z3:=HL2.out.at 3 2 (v:=Z O dh) rfl rfl
   have z4:=HL2.out.at 3 6 (v:=Z O boi) rfl rfl
   have z5:=HL2.out.at 0 1 (v:=Z O aft) rfl rfl
   go_wp2_with (fail)
   go_ret
   exact⟨by rw [HE.out];rfl,HL2.out.low⟩
end Go.Proofs.Ytgekekhbhkgekaa
