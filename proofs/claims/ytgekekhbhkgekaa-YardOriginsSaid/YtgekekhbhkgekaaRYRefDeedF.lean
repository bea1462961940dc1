/- The document's deed: a merge. -/
import Derived.Test.YtgekekhbhkgekaaRYRefStack
import Derived.Test.YtgekekhbhkgekaaRYTiers
namespace Go.Proofs.Ytgekekhbhkgekaa
open Go Go.RowKit Go.Shelf Yd
open Go.Value renaming int→Z,string→Zs,slice→Zl
open Go.IntKind renaming i64→O
open Go.Lib renaming hid→Zh
open _root_.List renaming setIfInBounds_toArray→Za,set_cons_succ→Zb,set_cons_zero→Zc
open _root_.Nat renaming le_of_ble_eq_true→Zn
open Go renaming wpList_store_mid→Zw,cell_regrown→Zg,below_regrown→Zk
set_option maxRecDepth 100000
set_option maxHeartbeats 16000000
set_option linter.unusedSimpArgs false
theorem rdeed_six (tv:Value)(aN:List SRow)(aA aB aC aD aE aF aG aH aI aJ aK aL:Int)(day:Int)(code aM:Code)(al ah bl bh:Int)(i:Nat)(w:World)(hst:Stands w aN tv)(hs:SmallSt i (stOf aN (⟨⟨aA,aB⟩,⟨aC,aD⟩,⟨aE,aF⟩,⟨aG,aH⟩,⟨aI,aJ⟩,⟨aK,aL⟩⟩:Yd.Acc)))(hi:i≤12)(fd:Fits (⟨6,day,code,aM,⟨al,ah⟩,⟨bl,bh⟩⟩:Deed Code))(hsz:code.size≤maxLen∧aM.size≤maxLen)(k:Nat)(xc:Code)(dl dh wl wh pil boi:Int)(src:List Int)(fa:Option Addr)(fn fc:Nat)(hp:aN[k]? = some (⟨xc,⟨dl,dh⟩,⟨wl,wh⟩,pil,boi,src⟩,Zl fa fn fc))(hix:rxInt aN code=(k:Int))(hat:at_ (aN.map (fun p:SRow=>p.1)) code=k)(o:Nat)(yc:Code)(dl2 dh2 wl2 wh2 pil2 boi2:Int)(src2:List Int)(fa2:Option Addr)(fn2 fc2:Nat)(hp2:aN[o]? = some (⟨yc,⟨dl2,dh2⟩,⟨wl2,wh2⟩,pil2,boi2,src2⟩,Zl fa2 fn2 fc2))(hox:rxInt aN aM=(o:Int))(hao:at_ (aN.map (fun p:SRow=>p.1)) aM=o) :
  Calls Try.prog 52 #[.agg #[tv,Z O aA,Z O aB,Z O aC,Z O aD,Z O aE,Z O aF,Z O aG,Z O aH,Z O aI,Z O aJ,Z O aK,Z O aL],.agg #[Z O 6,Z O day,Zs code,Zs aM,Z O al,Z O ah,Z O bl,Z O bh],Z O i] w (RDeedDone w aN (⟨⟨aA,aB⟩,⟨aC,aD⟩,⟨aE,aF⟩,⟨aG,aH⟩,⟨aI,aJ⟩,⟨aK,aL⟩⟩:Yd.Acc) (⟨6,day,code,aM,⟨al,ah⟩,⟨bl,bh⟩⟩:Deed Code) i):=by
 have hrl:aN.length≤8:=hst.few
 have hsm:=hs.stacks ⟨xc,⟨dl,dh⟩,⟨wl,wh⟩,pil,boi,src⟩ (List.mem_map.2 ⟨_,List.mem_of_getElem? hp,rfl⟩)
 have HUD:=Zh (up4_small hsm.dry hi);have HUW:=Zh (up4_small hsm.water hi)
 have hpi:0≤pil∧pil≤2000:=hsm.piled
 have hbo : -1≤boi∧boi≤2000:=hsm.boiled
 have hsm2:=hs.stacks ⟨yc,⟨dl2,dh2⟩,⟨wl2,wh2⟩,pil2,boi2,src2⟩ (List.mem_map.2 ⟨_,List.mem_of_getElem? hp2,rfl⟩)
 have HUD2:=Zh (up4_small hsm2.dry hi);have HUW2:=Zh (up4_small hsm2.water hi)
 have hpi2:0≤pil2∧pil2≤2000:=hsm2.piled
 have hbo2 : -1≤boi2∧boi2≤2000:=hsm2.boiled
 have HBL:=Zh (show(both src src2).length≤1000 from by
  have:((both src src2).length:Int)≤max 0 ((i:Int)-0):=asc_len (asc_both _ _ hsm.asc hsm2.asc) (a:=0) (n:=(i:Int)) (fun p hp=>by
   rcases (mem_both _ _ _).1 hp with h1 | h1
   ·exact hsm.src p h1
   ·exact hsm2.src p h1)
  omega)
 have HBP:=Zh (both_pos (m:=src2) hsm.some)
 have HP2:=Zh hp2;have HOX:=Zh hox;have HAO:=Zh hao;have HOL:=Zh (row_here hp2).1;have HX2:=Zh (row_here hp2).2
 have hol:=(row_here hp2).1
 simp only at HUD2 HUW2 HBP
 clear hsm2 hp2 hox hao
 have HP:=Zh hp;have HIX:=Zh hix;have HAT:=Zh hat;have HKL:=Zh (row_here hp).1;have HX:=Zh (row_here hp).2
 have hkl:=(row_here hp).1
 simp only at HUD HUW
 clear hsm hp hix hat
 have HSTW:=Zh hst
 have HST:=Zh (fun W (hW:Below w.heap.size w W)=>hst.below hW)
 have hth:=hst.things
 have HFS:=Zh (from_slices hst)
 obtain⟨t1a,n,t1c,htv⟩:=row_slice hth
 subst htv
 have hn:n=aN.length:=row_len hth
 rw [← hn]at hrl hth
 have HN:=Zh hn;have HS:=Zh hs;have HTH:=Zh hth;have HFD:=Zh fd;have HSZ:=Zh hsz
 have hdy:=fd.day
 simp only at hdy
 have HU_vapour:=Zh (up4_small hs.acc.vapour hi)
 have HU_broth:=Zh (up4_small hs.acc.broth hi)
 have HU_dust:=Zh (up4_small hs.acc.dust hi)
 have HU_soldDry:=Zh (up4_small hs.acc.soldDry hi)
 have HU_soldWater:=Zh (up4_small hs.acc.soldWater hi)
 have HU_soaked:=Zh (up4_small hs.acc.soaked hi)
 have HUA:=Zh (fits_a fd)
 simp only [stOf]at HU_vapour HU_broth HU_dust HU_soldDry HU_soldWater HU_soaked HUA
 clear hst hs hn hth fd hsz
 have HL0:=Zh (p:=Locs w (((w.alloc (.cells #[Zl t1a n t1c,Z O aA,Z O aB,Z O aC,Z O aD,Z O aE,Z O aF,Z O aG,Z O aH,Z O aI,Z O aJ,Z O aK,Z O aL] 36)).alloc (.cells #[Z O 6,Z O day,Zs code,Zs aM,Z O al,Z O ah,Z O bl,Z O bh] 55)).alloc (.cells #[Zl none 0 0,Z O 0,Z O 0,Z O 0,Z O 0,Z O 0,Z O 0,Z O 0,Z O 0,Z O 0,Z O 0,Z O 0,Z O 0] 36)) [(w.heap.size,36,[Zl t1a n t1c,Z O aA,Z O aB,Z O aC,Z O aD,Z O aE,Z O aF,Z O aG,Z O aH,Z O aI,Z O aJ,Z O aK,Z O aL]),(w.heap.size+1,55,[Z O 6,Z O day,Zs code,Zs aM,Z O al,Z O ah,Z O bl,Z O bh]),(w.heap.size+1+1,36,[Zl none 0 0,Z O 0,Z O 0,Z O 0,Z O 0,Z O 0,Z O 0,Z O 0,Z O 0,Z O 0,Z O 0,Z O 0,Z O 0])] []) ((((Locs.start w).alloc 36 [Zl t1a n t1c,Z O aA,Z O aB,Z O aC,Z O aD,Z O aE,Z O aF,Z O aG,Z O aH,Z O aI,Z O aJ,Z O aK,Z O aL] rfl).alloc 55 [Z O 6,Z O day,Zs code,Zs aM,Z O al,Z O ah,Z O bl,Z O bh] (World.size_alloc _ _)).alloc 36 [Zl none 0 0,Z O 0,Z O 0,Z O 0,Z O 0,Z O 0,Z O 0,Z O 0,Z O 0,Z O 0,Z O 0,Z O 0,Z O 0] (by rw [World.size_alloc,World.size_alloc]))
 go_enter Try.func52,Try.ntmps52
 go_upto_region 1 with fail
 generalize World.alloc _ _=w1 at HL0 ⊢
 generalize w.heap.size+1+1=ge at HL0 ⊢
 generalize w.heap.size+1=gd at HL0 ⊢
 obtain⟨gs,hgs⟩:∃ g,g=w.heap.size:=⟨_,rfl⟩
 rw [← hgs]at HL0 ⊢
 clear hgs
 go_cut [7]from 15 to 18 (fun s7 wx => ∃(g cap:Nat) (aO:List Value),s7=Zl (some ⟨g,0,none⟩) n cap∧Hid (n≤cap∧cap≤maxLen∧aO.length=(cap-n)*8)∧Hid (Locs w wx [(gs,36,[Zl t1a n t1c,Z O aA,Z O aB,Z O aC,Z O aD,Z O aE,Z O aF,Z O aG,Z O aH,Z O aI,Z O aJ,Z O aK,Z O aL]),(gd,55,[Z O 6,Z O day,Zs code,Zs aM,Z O al,Z O ah,Z O bl,Z O bh]),(ge,36,[Zl none 0 0,Z O 0,Z O 0,Z O 0,Z O 0,Z O 0,Z O 0,Z O 0,Z O 0,Z O 0,Z O 0,Z O 0,Z O 0]),(g,49,flat rowCells aN++aO)] []))
 case first =>
  obtain⟨i1_,hi1,hi1a,hi1b,hi1c⟩:=info_parts info_stack
  have HI1:=Zh hi1;have HI1a:=Zh hi1a;have HI1b:=Zh hi1b;have HI1c:=Zh hi1c
  have HFL:=Zh (p:=(flat rowCells aN).length=n*8) (by rw [flat_length row_eight,HN.out])
  have HFO':=Zh (p:=∀ u ∈ flat rowCells aN,u.oneCell'=true) (row_onesS HFS.out)
  have HOWN1:=Zh (owns_emptyS w1)
  have HSZ1:=Zh (p:=w1.heap.size≤(w1.alloc (.cells #[] 49)).heap.size) (by rw [World.size_alloc];omega)
  have HLa:=Zh (HL0.out.below ((Below.refl w1.heap.size w1).alloc (Nat.le_refl _) (.cells #[] 49)))
  have HLT:=Zh (p:=∀ x ∈ ([(gs,36,[Zl t1a n t1c,Z O aA,Z O aB,Z O aC,Z O aD,Z O aE,Z O aF,Z O aG,Z O aH,Z O aI,Z O aJ,Z O aK,Z O aL]),(gd,55,[Z O 6,Z O day,Zs code,Zs aM,Z O al,Z O ah,Z O bl,Z O bh]),(ge,36,[Zl none 0 0,Z O 0,Z O 0,Z O 0,Z O 0,Z O 0,Z O 0,Z O 0,Z O 0,Z O 0,Z O 0,Z O 0,Z O 0])]:List (Nat × TypeId × List Value)),x.1<w1.heap.size) (fun x hx=>(HL0.out.loc x hx).1.lt)
  have r0:=HLa.out.at 0 0 (v:=Zl t1a n t1c) rfl rfl
  clear hi1 hi1a hi1b hi1c
  obtain⟨_,⟨hv0,hn0⟩ | ⟨b,bcap,bcur,hv,hbb,hbl,hbc,hbm,hbs,hbt⟩⟩:=HTH.out
  ·injection hv0 with e1 e2 e3
   subst e1 e2 e3
   have HR0:=Zh (p:=aN = []) (List.length_eq_zero_iff.1 HN.out.symm)
   go_wp2_with (at_builtin;refine wpList_append_own_none rfl (.tmp 15) (.tmp 17) 30 rfl w1.heap.size 49 i1_ 8 Try.underlying30 HI1.out _ _ _ rfl HOWN1.out rfl ?_)
   go_meet
   case rel =>
    refine⟨w1.heap.size,0,[],rfl,Zh ⟨Nat.le_refl _,by unfold maxLen;omega,rfl⟩,Zh ?_⟩
    rw [HR0.out]
    exact HL0.out.alloc 49 [] rfl
  ·injection hv with e1 e2 e3
   subst e1 e3
   clear e2
   have HHD6:=Zh (show ∀ j u,(flat rowCells aN)[j]? = some u→(w1.alloc (.cells #[] 49)).cell? ((⟨b,0,none⟩:Addr).add j)=some u from fun j u hu=>by
    have hb3:=((HST.out _ HLa.out.low).things)
    rw [← HN.out]at hb3
    obtain⟨g',cap',cur',hv',hb',hc',_,hs',ht'⟩:=row_block hb3 (by
     rcases Nat.eq_zero_or_pos n with h0 | h0
     ·have:=(List.getElem?_eq_some_iff.1 hu).1
      rw [HFL.out,h0]at this
      omega
     ·exact h0)
    injection hv' with e1 _ _
    injection e1 with e1
    injection e1 with e1
    subst e1
    rw [addr_add,hb'.cell,← Array.getElem?_toList]
    rw [flat_rows,← ht',List.getElem?_take]at hu
    split at hu
    ·exact hu
    ·cases hu)
   clear hbb hbl hbc hbm hbs hbt
   go_wp2_with (at_builtin;refine wpList_append_own _ rfl (.tmp 15) (.tmp 17) 30 rfl w1.heap.size 49 i1_ (.agg #[Zs ⟨#[]⟩,Z O 0,Z O 0,Z O 0,Z O 0,Z O 0,Z O 0,Zl none 0 0]) 8 88 Try.underlying30 HI1.out HI1a.out HI1b.out HI1c.out rfl (by decide) _ _ _ rfl HOWN1.out ⟨b,0,none⟩ n t1c (flat rowCells aN) rfl HFL.out HHD6.out HFO'.out (by unfold maxLen;omega) (by omega) HSZ1.out ?_;intro v7 w7 hown7 hgrow7 hnil7;have hne7:v7≠Zl none 0 0:=(fun hh=>(by have:=(hnil7.1 hh).1;cases this));simp only [Nat.zero_add,List.nil_append]at hown7;obtain⟨g,cap,cur,hv7,hcur,hcap,hcapm,hgw,hcs7,hgtake⟩:=row_blockS hown7 hne7;subst hv7;have hbel7:Below w1.heap.size (w1.alloc (.cells #[] 49)) w7:=(Below.refl _ _).grown hgrow7 HSZ1.out (fun k e=>(by cases e;exact Nat.le_refl _));have HL7:=Zh (HLa.out.belowAt hbel7 HL0.out.low.size HLT.out);have HCUR:=Zh hcur;have HCAP:=Zh (And.intro hcap (And.intro hcapm (And.intro hgw (And.intro hcs7 hgtake))));clear hown7 hgrow7 hnil7 hne7 hcur hcap hcapm hgw hcs7 hgtake hbel7)
   go_meet
   case rel =>
    have e:cur=(flat rowCells aN++cur.toList.drop (n*8)).toArray:=by rw [← HCAP.out.2.2.2.2,List.take_append_drop,Array.toArray_toList]
    refine⟨g,cap,cur.toList.drop (n*8),rfl,Zh ⟨HCAP.out.1,HCAP.out.2.1,by rw [List.length_drop,Array.length_toList,HCAP.out.2.2.2.1];omega⟩,Zh ?_⟩
    refine HL7.out.adopt ?_ (Nat.le_trans HL0.out.low.size HCAP.out.2.2.1) (fun x hx=>?_)
    ·rw [← e]
     exact HCUR.out
    ·have h1:=HCAP.out.2.2.1
     have h2:=HLT.out x hx
     omega
 case rest =>
  obtain⟨g,cap,aO,rfl,HCAP,HL1⟩:=hcut
  clear HL0
  have s0:=HL1.out.at 0 1 (v:=Z O aA) rfl rfl
  have s1:=HL1.out.at 0 2 (v:=Z O aB) rfl rfl
  have s2:=HL1.out.at 0 3 (v:=Z O aC) rfl rfl
  have s3:=HL1.out.at 0 4 (v:=Z O aD) rfl rfl
  have s4:=HL1.out.at 0 5 (v:=Z O aE) rfl rfl
  have s5:=HL1.out.at 0 6 (v:=Z O aF) rfl rfl
  have s6:=HL1.out.at 0 7 (v:=Z O aG) rfl rfl
  have s7:=HL1.out.at 0 8 (v:=Z O aH) rfl rfl
  have s8:=HL1.out.at 0 9 (v:=Z O aI) rfl rfl
  have s9:=HL1.out.at 0 10 (v:=Z O aJ) rfl rfl
  have s10:=HL1.out.at 0 11 (v:=Z O aK) rfl rfl
  have s11:=HL1.out.at 0 12 (v:=Z O aL) rfl rfl
  go_upto_region 3 with(((with_reducible refine at_store 34 (.tmp 8) (.tmp 20) ?_);go_must (refine Zw rfl 34 (.tmp 8) (.tmp 20) rfl wc.heap.size 0 _ rfl rfl ((Blk.new wc 34 #[Z O 0,Z O 0,Z O 0,Z O 0,Z O 0,Z O 0,Z O 0,Z O 0,Z O 0,Z O 0,Z O 0,Z O 0]).there (o:=0) (n:=12) (Zn rfl)) size_account (by simp [Value.oneCell']) ?_)))
  clear s0 s1 s2 s3 s4 s5 s6 s7 s8 s9 s10 s11
  have HL2:=Zh (p:=Locs w ((wc.alloc (.cells #[Z O 0,Z O 0,Z O 0,Z O 0,Z O 0,Z O 0,Z O 0,Z O 0,Z O 0,Z O 0,Z O 0,Z O 0] 34)).setCells wc.heap.size 0 [Z O aA,Z O aB,Z O aC,Z O aD,Z O aE,Z O aF,Z O aG,Z O aH,Z O aI,Z O aJ,Z O aK,Z O aL]) [(gs,36,[Zl t1a n t1c,Z O aA,Z O aB,Z O aC,Z O aD,Z O aE,Z O aF,Z O aG,Z O aH,Z O aI,Z O aJ,Z O aK,Z O aL]),(gd,55,[Z O 6,Z O day,Zs code,Zs aM,Z O al,Z O ah,Z O bl,Z O bh]),(ge,36,[Zl none 0 0,Z O 0,Z O 0,Z O 0,Z O 0,Z O 0,Z O 0,Z O 0,Z O 0,Z O 0,Z O 0,Z O 0,Z O 0]),(g,49,flat rowCells aN++aO),(wc.heap.size,34,[Z O aA,Z O aB,Z O aC,Z O aD,Z O aE,Z O aF,Z O aG,Z O aH,Z O aI,Z O aJ,Z O aK,Z O aL])] []) ((HL1.out.alloc 34 [Z O 0,Z O 0,Z O 0,Z O 0,Z O 0,Z O 0,Z O 0,Z O 0,Z O 0,Z O 0,Z O 0,Z O 0] rfl).setLoc 4 [] [Z O 0,Z O 0,Z O 0,Z O 0,Z O 0,Z O 0,Z O 0,Z O 0,Z O 0,Z O 0,Z O 0,Z O 0] [] [Z O aA,Z O aB,Z O aC,Z O aD,Z O aE,Z O aF,Z O aG,Z O aH,Z O aI,Z O aJ,Z O aK,Z O aL] rfl rfl)
  clear HL1
  generalize((wc.alloc (.cells #[Z O 0,Z O 0,Z O 0,Z O 0,Z O 0,Z O 0,Z O 0,Z O 0,Z O 0,Z O 0,Z O 0,Z O 0] 34)).setCells wc.heap.size 0 [Z O aA,Z O aB,Z O aC,Z O aD,Z O aE,Z O aF,Z O aG,Z O aH,Z O aI,Z O aJ,Z O aK,Z O aL])=v1 at HL2 ⊢
  generalize wc.heap.size=ga at HL2 ⊢
  try simp only [Act.put]
  obtain⟨ki,hki⟩:∃ x,x=rxInt aN code:=⟨_,rfl⟩
  obtain⟨oi,hoi⟩:∃ x,x=rxInt aN aM:=⟨_,rfl⟩
  have HKI:=Zh hki;have HOI:=Zh hoi
  clear hki hoi
  have HRW:=Zh (show v1.ownsRow w.heap.size 49 8 (Zl (some ⟨g,0,none⟩) n cap) aN.length (rowsCells aN)from by
   have h1:=(rowed_ofS (L:=[(gs,36,[Zl t1a n t1c,Z O aA,Z O aB,Z O aC,Z O aD,Z O aE,Z O aF,Z O aG,Z O aH,Z O aI,Z O aJ,Z O aK,Z O aL]),(gd,55,[Z O 6,Z O day,Zs code,Zs aM,Z O al,Z O ah,Z O bl,Z O bh]),(ge,36,[Zl none 0 0,Z O 0,Z O 0,Z O 0,Z O 0,Z O 0,Z O 0,Z O 0,Z O 0,Z O 0,Z O 0,Z O 0,Z O 0])]) (HL2.out.fewer (List.sublist_append_left ([(gs,36,[Zl t1a n t1c,Z O aA,Z O aB,Z O aC,Z O aD,Z O aE,Z O aF,Z O aG,Z O aH,Z O aI,Z O aJ,Z O aK,Z O aL]),(gd,55,[Z O 6,Z O day,Zs code,Zs aM,Z O al,Z O ah,Z O bl,Z O bh]),(ge,36,[Zl none 0 0,Z O 0,Z O 0,Z O 0,Z O 0,Z O 0,Z O 0,Z O 0,Z O 0,Z O 0,Z O 0,Z O 0,Z O 0]),(g,49,flat rowCells aN++aO)]:List (Nat × TypeId × List Value)) _) (List.Sublist.refl _)) HN.out.symm HCAP.out).own
   rw [flat_rows]at h1
   rw [← HN.out]
   exact h1)
  have m0:∀ d os,Calls Try.prog 68 #[Zl (some ⟨g,0,none⟩) n cap,Zs code] (Go.Sort.grow (redrawn v1 d) os) fun e w''=>e=.returned (Z O ki)∧∃ p:Regrown,w''=Go.Sort.grow (redrawn v1 p.d) p.os:=fun d os=>Calls.regrown_of (by rw [HKI.out];exact rat_calls _ aN code _ (row_same HRW.out (fun g' hg=>(Zk v1 d os).block g' (row_lt HRW.out hg))) (by rw [← HN.out];omega))
  have m1:∀ d os,Calls Try.prog 68 #[Zl (some ⟨g,0,none⟩) n cap,Zs aM] (Go.Sort.grow (redrawn v1 d) os) fun e w''=>e=.returned (Z O oi)∧∃ p:Regrown,w''=Go.Sort.grow (redrawn v1 p.d) p.os:=fun d os=>Calls.regrown_of (by rw [HOI.out];exact rat_calls _ aN aM _ (row_same HRW.out (fun g' hg=>(Zk v1 d os).block g' (row_lt HRW.out hg))) (by rw [← HN.out];omega))
  have q0:=Zg (HL2.out.at 1 2 (v:=Zs code) rfl rfl)
  have q1:=Zg (HL2.out.at 1 3 (v:=Zs aM) rfl rfl)
  refine wp_region_quiet_below (by kernel_rfl) (by kernel_rfl) ?_
  repeat(go_big_quiet_step (first|(with_reducible exact m0 _ _)|(with_reducible exact m1 _ _)))
  refine wpQuiet_nil ?_
  intro wq hw'
  have hb8:Below v1.heap.size v1 wq:=by obtain⟨⟨dq,osq⟩,hw''⟩:=hw';rw [hw''];exact Zk _ dq osq
  clear hw' q0 q1 m0 m1 HRW
  have HL3:=Zh (HL2.out.below hb8)
  clear hb8 HL2
  generalize wq=v2 at HL3 ⊢
  have hkk:ki=(k:Int):=HKI.out.trans HIX.out
  subst hkk
  have hkn:k<n:=by rw [HN.out];exact hkl
  have hknI:(k:Int)<(n:Int):=by omega
  have hnc:n≤cap:=HCAP.out.1
  clear hkl
  have s0:=HL3.out.at 1 0 (v:=Z O 6) rfl rfl
  have c0:=(show v2.cell? ⟨g,k*8,none⟩=some (Zs xc)from(row_cellS HL3.out 3 rfl HKL.out 0 (by decide)).trans (by rw [HX.out];rfl))
  have c1:=(show v2.cell? ⟨g,k*8+1,none⟩=some (Z O dl)from(row_cellS HL3.out 3 rfl HKL.out 1 (by decide)).trans (by rw [HX.out];rfl))
  have c2:=(show v2.cell? ⟨g,k*8+2,none⟩=some (Z O dh)from(row_cellS HL3.out 3 rfl HKL.out 2 (by decide)).trans (by rw [HX.out];rfl))
  have c3:=(show v2.cell? ⟨g,k*8+3,none⟩=some (Z O wl)from(row_cellS HL3.out 3 rfl HKL.out 3 (by decide)).trans (by rw [HX.out];rfl))
  have c4:=(show v2.cell? ⟨g,k*8+4,none⟩=some (Z O wh)from(row_cellS HL3.out 3 rfl HKL.out 4 (by decide)).trans (by rw [HX.out];rfl))
  have c5:=(show v2.cell? ⟨g,k*8+5,none⟩=some (Z O pil)from(row_cellS HL3.out 3 rfl HKL.out 5 (by decide)).trans (by rw [HX.out];rfl))
  have c6:=(show v2.cell? ⟨g,k*8+6,none⟩=some (Z O boi)from(row_cellS HL3.out 3 rfl HKL.out 6 (by decide)).trans (by rw [HX.out];rfl))
  have c7:=(show v2.cell? ⟨g,k*8+7,none⟩=some (Zl fa fn fc)from(row_cellS HL3.out 3 rfl HKL.out 7 (by decide)).trans (by rw [HX.out];rfl))
  go_upto_region 8 with((with_reducible refine at_store 49 (.tmp 11) (.tmp 52) ?_);go_must (refine Zw rfl 49 (.tmp 11) (.tmp 52) rfl v2.heap.size 0 _ rfl rfl ((Blk.new v2 49 #[Zs ⟨#[]⟩,Z O 0,Z O 0,Z O 0,Z O 0,Z O 0,Z O 0,Zl none 0 0]).there (o:=0) (n:=8) (Zn rfl)) size_stack ((by simp [Value.oneCell'])) ?_))
  clear s0 c0 c1 c2 c3 c4 c5 c6 c7
  have HL4:=Zh (p:=Locs w ((v2.alloc (.cells #[Zs ⟨#[]⟩,Z O 0,Z O 0,Z O 0,Z O 0,Z O 0,Z O 0,Zl none 0 0] 49)).setCells v2.heap.size 0 [Zs xc,Z O dl,Z O dh,Z O wl,Z O wh,Z O pil,Z O boi,Zl fa fn fc]) [(gs,36,[Zl t1a n t1c,Z O aA,Z O aB,Z O aC,Z O aD,Z O aE,Z O aF,Z O aG,Z O aH,Z O aI,Z O aJ,Z O aK,Z O aL]),(gd,55,[Z O 6,Z O day,Zs code,Zs aM,Z O al,Z O ah,Z O bl,Z O bh]),(ge,36,[Zl none 0 0,Z O 0,Z O 0,Z O 0,Z O 0,Z O 0,Z O 0,Z O 0,Z O 0,Z O 0,Z O 0,Z O 0,Z O 0]),(g,49,flat rowCells aN++aO),(ga,34,[Z O aA,Z O aB,Z O aC,Z O aD,Z O aE,Z O aF,Z O aG,Z O aH,Z O aI,Z O aJ,Z O aK,Z O aL]),(v2.heap.size,49,[Zs xc,Z O dl,Z O dh,Z O wl,Z O wh,Z O pil,Z O boi,Zl fa fn fc])] []) ((HL3.out.alloc 49 [Zs ⟨#[]⟩,Z O 0,Z O 0,Z O 0,Z O 0,Z O 0,Z O 0,Zl none 0 0] rfl).setLoc 5 [] [Zs ⟨#[]⟩,Z O 0,Z O 0,Z O 0,Z O 0,Z O 0,Z O 0,Zl none 0 0] [] [Zs xc,Z O dl,Z O dh,Z O wl,Z O wh,Z O pil,Z O boi,Zl fa fn fc] rfl rfl)
  clear HL3
  generalize((v2.alloc (.cells #[Zs ⟨#[]⟩,Z O 0,Z O 0,Z O 0,Z O 0,Z O 0,Z O 0,Zl none 0 0] 49)).setCells v2.heap.size 0 [Zs xc,Z O dl,Z O dh,Z O wl,Z O wh,Z O pil,Z O boi,Zl fa fn fc])=v3 at HL4 ⊢
  generalize v2.heap.size=gx at HL4 ⊢
  try simp only [Act.put]
  have hoo:oi=(o:Int):=HOI.out.trans HOX.out
  subst hoo
  have hon:o<n:=by rw [HN.out];exact hol
  have honI:(o:Int)<(n:Int):=by omega
  clear hol
  have s0:=HL4.out.at 1 0 (v:=Z O 6) rfl rfl
  have c0:=(show v3.cell? ⟨g,o*8,none⟩=some (Zs yc)from(row_cellS HL4.out 3 rfl HOL.out 0 (by decide)).trans (by rw [HX2.out];rfl))
  have c1:=(show v3.cell? ⟨g,o*8+1,none⟩=some (Z O dl2)from(row_cellS HL4.out 3 rfl HOL.out 1 (by decide)).trans (by rw [HX2.out];rfl))
  have c2:=(show v3.cell? ⟨g,o*8+2,none⟩=some (Z O dh2)from(row_cellS HL4.out 3 rfl HOL.out 2 (by decide)).trans (by rw [HX2.out];rfl))
  have c3:=(show v3.cell? ⟨g,o*8+3,none⟩=some (Z O wl2)from(row_cellS HL4.out 3 rfl HOL.out 3 (by decide)).trans (by rw [HX2.out];rfl))
  have c4:=(show v3.cell? ⟨g,o*8+4,none⟩=some (Z O wh2)from(row_cellS HL4.out 3 rfl HOL.out 4 (by decide)).trans (by rw [HX2.out];rfl))
  have c5:=(show v3.cell? ⟨g,o*8+5,none⟩=some (Z O pil2)from(row_cellS HL4.out 3 rfl HOL.out 5 (by decide)).trans (by rw [HX2.out];rfl))
  have c6:=(show v3.cell? ⟨g,o*8+6,none⟩=some (Z O boi2)from(row_cellS HL4.out 3 rfl HOL.out 6 (by decide)).trans (by rw [HX2.out];rfl))
  have c7:=(show v3.cell? ⟨g,o*8+7,none⟩=some (Zl fa2 fn2 fc2)from(row_cellS HL4.out 3 rfl HOL.out 7 (by decide)).trans (by rw [HX2.out];rfl))
  go_upto_region 26 with((with_reducible refine at_store 49 (.tmp 14) (.tmp 180) ?_);go_must (refine Zw rfl 49 (.tmp 14) (.tmp 180) rfl v3.heap.size 0 _ rfl rfl ((Blk.new v3 49 #[Zs ⟨#[]⟩,Z O 0,Z O 0,Z O 0,Z O 0,Z O 0,Z O 0,Zl none 0 0]).there (o:=0) (n:=8) (Zn rfl)) size_stack ((by simp [Value.oneCell'])) ?_))
  clear s0 c0 c1 c2 c3 c4 c5 c6 c7
  have HL5:=Zh (p:=Locs w ((v3.alloc (.cells #[Zs ⟨#[]⟩,Z O 0,Z O 0,Z O 0,Z O 0,Z O 0,Z O 0,Zl none 0 0] 49)).setCells v3.heap.size 0 [Zs yc,Z O dl2,Z O dh2,Z O wl2,Z O wh2,Z O pil2,Z O boi2,Zl fa2 fn2 fc2]) [(gs,36,[Zl t1a n t1c,Z O aA,Z O aB,Z O aC,Z O aD,Z O aE,Z O aF,Z O aG,Z O aH,Z O aI,Z O aJ,Z O aK,Z O aL]),(gd,55,[Z O 6,Z O day,Zs code,Zs aM,Z O al,Z O ah,Z O bl,Z O bh]),(ge,36,[Zl none 0 0,Z O 0,Z O 0,Z O 0,Z O 0,Z O 0,Z O 0,Z O 0,Z O 0,Z O 0,Z O 0,Z O 0,Z O 0]),(g,49,flat rowCells aN++aO),(ga,34,[Z O aA,Z O aB,Z O aC,Z O aD,Z O aE,Z O aF,Z O aG,Z O aH,Z O aI,Z O aJ,Z O aK,Z O aL]),(gx,49,[Zs xc,Z O dl,Z O dh,Z O wl,Z O wh,Z O pil,Z O boi,Zl fa fn fc]),(v3.heap.size,49,[Zs yc,Z O dl2,Z O dh2,Z O wl2,Z O wh2,Z O pil2,Z O boi2,Zl fa2 fn2 fc2])] []) ((HL4.out.alloc 49 [Zs ⟨#[]⟩,Z O 0,Z O 0,Z O 0,Z O 0,Z O 0,Z O 0,Zl none 0 0] rfl).setLoc 6 [] [Zs ⟨#[]⟩,Z O 0,Z O 0,Z O 0,Z O 0,Z O 0,Z O 0,Zl none 0 0] [] [Zs yc,Z O dl2,Z O dh2,Z O wl2,Z O wh2,Z O pil2,Z O boi2,Zl fa2 fn2 fc2] rfl rfl)
  clear HL4
  generalize((v3.alloc (.cells #[Zs ⟨#[]⟩,Z O 0,Z O 0,Z O 0,Z O 0,Z O 0,Z O 0,Zl none 0 0] 49)).setCells v3.heap.size 0 [Zs yc,Z O dl2,Z O dh2,Z O wl2,Z O wh2,Z O pil2,Z O boi2,Zl fa2 fn2 fc2])=v4 at HL5 ⊢
  generalize v3.heap.size=gm at HL5 ⊢
  try simp only [Act.put]
  have HC1:=Zh (p:=∀ W:World,Calls Try.prog 70 #[.agg #[Z O (dl),Z O (dh)],.agg #[Z O (dl2),Z O (dh2)]] W (fun e w'=>e=.returned (.agg #[Z O (dl+dl2),Z O (dh+dh2)])∧Below W.heap.size W w')) (fun W=>radd_up (HUD.out.more (by decide)) (HUD2.out.more (by decide)) W)
  have HC2:=Zh (p:=∀ W:World,Calls Try.prog 70 #[.agg #[Z O (wl),Z O (wh)],.agg #[Z O (wl2),Z O (wh2)]] W (fun e w'=>e=.returned (.agg #[Z O (wl+wl2),Z O (wh+wh2)])∧Below W.heap.size W w')) (fun W=>radd_up (HUW.out.more (by decide)) (HUW2.out.more (by decide)) W)
  go_cut []from 181 to 204 (fun wx => ∃(gi um icap:Nat) (icur:Array Value),Hid (um=(both src src2).length∧um≤icap∧icap≤maxLen∧icur.size=icap*1∧icur.toList.take (um*1)=intCells (both src src2))∧Hid (Locs w wx [(gs,36,[Zl t1a n t1c,Z O aA,Z O aB,Z O aC,Z O aD,Z O aE,Z O aF,Z O aG,Z O aH,Z O aI,Z O aJ,Z O aK,Z O aL]),(gd,55,[Z O 6,Z O day,Zs code,Zs aM,Z O al,Z O ah,Z O bl,Z O bh]),(ge,36,[Zl none 0 0,Z O 0,Z O 0,Z O 0,Z O 0,Z O 0,Z O 0,Z O 0,Z O 0,Z O 0,Z O 0,Z O 0,Z O 0]),(g,49,flat rowCells aN++aO),(ga,34,[Z O aA,Z O aB,Z O aC,Z O aD,Z O aE,Z O aF,Z O aG,Z O aH,Z O aI,Z O aJ,Z O aK,Z O aL]),(gx,49,[Zs xc,Z O (dl+dl2),Z O (dh+dh2),Z O (wl+wl2),Z O (wh+wh2),Z O (max pil pil2),Z O boi,Zl (some ⟨gi,0,none⟩) um icap]),(gm,49,[Zs yc,Z O dl2,Z O dh2,Z O wl2,Z O wh2,Z O pil2,Z O boi2,Zl fa2 fn2 fc2]),(gi,3,icur.toList)] []))
  case first =>
   by_cases hm:pil<pil2
   ·skip
    have hmd:decide (pil<pil2)=true:=by simpa using hm
    have HME:=Zh (show max pil pil2=pil2 by omega)
    refine region_till2 [21,23,25,27] (fun w'=>Blk w' gx 49 #[Zs xc,Z O dl,Z O dh,Z O wl,Z O wh,Z O pil,Z O boi,Zl fa fn fc]) (fun w'=>Blk w' gm 49 #[Zs yc,Z O dl2,Z O dh2,Z O wl2,Z O wh2,Z O pil2,Z O boi2,Zl fa2 fn2 fc2]) 28 [false,false,false,false,false,false,false,false,false,false,false,false,false,false,false,false,false,false,false,false,false,false,false,false,false,false,false,false] (by kernel_rfl) rfl rfl ?_
    have MK1:=fun(W:World) (h:(fun w'=>Blk w' gx 49 #[Zs xc,Z O dl,Z O dh,Z O wl,Z O wh,Z O pil,Z O boi,Zl fa fn fc]) W)=>Zh h
    have MK2:=fun(W:World) (h:(fun w'=>Blk w' gm 49 #[Zs yc,Z O dl2,Z O dh2,Z O wl2,Z O wh2,Z O pil2,Z O boi2,Zl fa2 fn2 fc2]) W)=>Zh h
    have HL6:=Zh (HL5.out.drew)
    clear HL5
    generalize v4.drew=v5 at HL6 ⊢
    have HT:=MK1 v5 (HL6.out.blk 5 rfl)
    have HS:=MK2 v5 (HL6.out.blk 6 rfl)
    refine till2_pure (i:=0) (v:=.pointer (some ⟨gx,1,none⟩)) rfl rfl (by kernel_rfl) (fun _ _ _ h=>h) (yields_of rfl (fun w' _=>by simp [go_sem])) ⟨HS.out,fun _=>HT.out⟩ ?_
    try simp only [Za,Zb,Zc]
    refine till2_load (i:=1) (v:=.agg #[Z O dl,Z O dh]) rfl rfl (by kernel_rfl) (fun _ _ _ h=>h) (yields_mid rfl 32 (.tmp 181) rfl (gx) 1 rfl [Z O dl,Z O dh] _ (fun w' hw'=>Blk.range hw' 1 _ rfl) Try.underlying32 rfl (by kernel_rfl)) ⟨HS.out,fun _=>HT.out⟩ ?_
    try simp only [Za,Zb,Zc]
    refine till2_pure (i:=2) (v:=.pointer (some ⟨gm,1,none⟩)) rfl rfl (by kernel_rfl) (fun _ _ _ h=>h) (yields_of rfl (fun w' _=>by simp [go_sem])) ⟨HS.out,fun _=>HT.out⟩ ?_
    try simp only [Za,Zb,Zc]
    refine till2_keep (i:=3) (v:=.agg #[Z O dl2,Z O dh2]) rfl rfl (by kernel_rfl) (fun _ _ _ h=>h) (yields_mid rfl 32 (.tmp 183) rfl (gm) 1 rfl [Z O dl2,Z O dh2] _ (fun w' hw'=>Blk.range hw' 1 _ rfl) Try.underlying32 rfl (by kernel_rfl)) ⟨HS.out,fun _=>HT.out⟩ ?_
    try simp only [Za,Zb,Zc]
    refine till2_pure (i:=5) (v:=.pointer (some ⟨gx,3,none⟩)) rfl rfl (by kernel_rfl) (fun _ _ _ h=>h) (yields_of rfl (fun w' _=>by simp [go_sem])) ⟨HS.out,fun _=>HT.out⟩ ?_
    try simp only [Za,Zb,Zc]
    refine till2_load (i:=6) (v:=.agg #[Z O wl,Z O wh]) rfl rfl (by kernel_rfl) (fun _ _ _ h=>h) (yields_mid rfl 32 (.tmp 186) rfl (gx) 3 rfl [Z O wl,Z O wh] _ (fun w' hw'=>Blk.range hw' 3 _ rfl) Try.underlying32 rfl (by kernel_rfl)) ⟨HS.out,fun _=>HT.out⟩ ?_
    try simp only [Za,Zb,Zc]
    refine till2_pure (i:=7) (v:=.pointer (some ⟨gm,3,none⟩)) rfl rfl (by kernel_rfl) (fun _ _ _ h=>h) (yields_of rfl (fun w' _=>by simp [go_sem])) ⟨HS.out,fun _=>HT.out⟩ ?_
    try simp only [Za,Zb,Zc]
    refine till2_keep (i:=8) (v:=.agg #[Z O wl2,Z O wh2]) rfl rfl (by kernel_rfl) (fun _ _ _ h=>h) (yields_mid rfl 32 (.tmp 188) rfl (gm) 3 rfl [Z O wl2,Z O wh2] _ (fun w' hw'=>Blk.range hw' 3 _ rfl) Try.underlying32 rfl (by kernel_rfl)) ⟨HS.out,fun _=>HT.out⟩ ?_
    try simp only [Za,Zb,Zc]
    refine till2_pure (i:=10) (v:=.pointer (some ⟨gx,5,none⟩)) rfl rfl (by kernel_rfl) (fun _ _ _ h=>h) (yields_of rfl (fun w' _=>by simp [go_sem])) ⟨HS.out,fun _=>HT.out⟩ ?_
    try simp only [Za,Zb,Zc]
    refine till2_load (i:=11) (v:=Z O pil) rfl rfl (by kernel_rfl) (fun _ _ _ h=>h) (yields_of rfl (fun w' hw'=>by have hcx:w'.cell? ⟨gx,5,none⟩=some (Z O pil):=Blk.at hw' 5 _ rfl;simp [go_sem,hcx])) ⟨HS.out,fun _=>HT.out⟩ ?_
    try simp only [Za,Zb,Zc]
    refine till2_pure (i:=12) (v:=.pointer (some ⟨gm,5,none⟩)) rfl rfl (by kernel_rfl) (fun _ _ _ h=>h) (yields_of rfl (fun w' _=>by simp [go_sem])) ⟨HS.out,fun _=>HT.out⟩ ?_
    try simp only [Za,Zb,Zc]
    refine till2_keep (i:=13) (v:=Z O pil2) rfl rfl (by kernel_rfl) (fun _ _ _ h=>h) (yields_of rfl (fun w' hw'=>by have hcx:w'.cell? ⟨gm,5,none⟩=some (Z O pil2):=Blk.at hw' 5 _ rfl;simp [go_sem,hcx])) ⟨HS.out,fun _=>HT.out⟩ ?_
    try simp only [Za,Zb,Zc]
    refine till2_pure (i:=14) (v:=Z O pil2) rfl rfl (by kernel_rfl) (fun _ _ _ h=>h) (yields_of rfl (fun w' _=>by simp [go_sem,hm];try omega)) ⟨HS.out,fun _=>HT.out⟩ ?_
    try simp only [Za,Zb,Zc]
    refine till2_pure (i:=15) (v:=.pointer (some ⟨gx,7,none⟩)) rfl rfl (by kernel_rfl) (fun _ _ _ h=>h) (yields_of rfl (fun w' _=>by simp [go_sem])) ⟨HS.out,fun _=>HT.out⟩ ?_
    try simp only [Za,Zb,Zc]
    refine till2_load (i:=16) (v:=Zl fa fn fc) rfl rfl (by kernel_rfl) (fun _ _ _ h=>h) (yields_of rfl (fun w' hw'=>by have hcx:w'.cell? ⟨gx,7,none⟩=some (Zl fa fn fc):=Blk.at hw' 7 _ rfl;simp [go_sem,hcx])) ⟨HS.out,fun _=>HT.out⟩ ?_
    try simp only [Za,Zb,Zc]
    refine till2_pure (i:=17) (v:=.pointer (some ⟨gm,7,none⟩)) rfl rfl (by kernel_rfl) (fun _ _ _ h=>h) (yields_of rfl (fun w' _=>by simp [go_sem])) ⟨HS.out,fun _=>HT.out⟩ ?_
    try simp only [Za,Zb,Zc]
    refine till2_keep (i:=18) (v:=Zl fa2 fn2 fc2) rfl rfl (by kernel_rfl) (fun _ _ _ h=>h) (yields_of rfl (fun w' hw'=>by have hcx:w'.cell? ⟨gm,7,none⟩=some (Zl fa2 fn2 fc2):=Blk.at hw' 7 _ rfl;simp [go_sem,hcx])) ⟨HS.out,fun _=>HT.out⟩ ?_
    try simp only [Za,Zb,Zc]
    refine till2_only (j:=4) (by kernel_rfl) rfl ?_
    clear HT HS
    go_wp2_with (go_at_call 70;refine(HC1.out _).mono ?_;rintro e v6 ⟨rfl,hb⟩;have HL7:=Zh (HL6.out.below hb);clear hb HL6)
    try change Till2 _ _ _ _ _∧wpAny2 _ _ _ _ _ _ _ _ _ _ _
    have HT:=MK1 v6 (HL7.out.blk 5 rfl)
    have HS:=MK2 v6 (HL7.out.blk 6 rfl)
    refine⟨⟨HS.out,fun _=>HT.out⟩,?_⟩
    try simp only [Za,Zb,Zc]
    refine till2_pure (i:=20) (v:=.pointer (some ⟨gx,1,none⟩)) rfl rfl (by kernel_rfl) (fun _ _ _ h=>h) (yields_of rfl (fun w' _=>by simp [go_sem])) ⟨HS.out,fun _=>HT.out⟩ ?_
    try simp only [Za,Zb,Zc]
    refine till2_only (j:=9) (by kernel_rfl) rfl ?_
    clear HT HS
    go_wp2_with (go_at_call 70;refine(HC2.out _).mono ?_;rintro e v7 ⟨rfl,hb⟩;have HL8:=Zh (HL7.out.below hb);clear hb HL7)
    try change Till2 _ _ _ _ _∧wpAny2 _ _ _ _ _ _ _ _ _ _ _
    have HT:=MK1 v7 (HL8.out.blk 5 rfl)
    have HS:=MK2 v7 (HL8.out.blk 6 rfl)
    refine⟨⟨HS.out,fun _=>HT.out⟩,?_⟩
    try simp only [Za,Zb,Zc]
    refine till2_only (j:=19) (by kernel_rfl) rfl ?_
    clear HT HS
    go_wp2_with (go_at_call 56;refine(rboth_calls (Zl fa fn fc) (Zl fa2 fn2 fc2) src src2 _ ((HST.out _ HL8.out.low).froms _ (List.mem_of_getElem? HP.out)) ((HST.out _ HL8.out.low).froms _ (List.mem_of_getElem? HP2.out)) (HSTW.out.fromsLen _ (List.mem_of_getElem? HP.out)) (HSTW.out.fromsLen _ (List.mem_of_getElem? HP2.out))).mono ?_;rintro e v8 ⟨u6,um,rfl,hb,hm6,how⟩;have HBT:=Zh how;have HBM:=Zh hm6;have HBB:=Zh hb;clear how hm6 hb)
    obtain⟨gi,icap,icur,hiv,hib,hic,him,his,hit⟩:=row_block HBT.out (by rw [HBM.out];exact HBP.out)
    subst hiv
    have HLX:=Zh (p:=∀ x ∈ ([(gs,36,[Zl t1a n t1c,Z O aA,Z O aB,Z O aC,Z O aD,Z O aE,Z O aF,Z O aG,Z O aH,Z O aI,Z O aJ,Z O aK,Z O aL]),(gd,55,[Z O 6,Z O day,Zs code,Zs aM,Z O al,Z O ah,Z O bl,Z O bh]),(ge,36,[Zl none 0 0,Z O 0,Z O 0,Z O 0,Z O 0,Z O 0,Z O 0,Z O 0,Z O 0,Z O 0,Z O 0,Z O 0,Z O 0]),(g,49,flat rowCells aN++aO),(ga,34,[Z O aA,Z O aB,Z O aC,Z O aD,Z O aE,Z O aF,Z O aG,Z O aH,Z O aI,Z O aJ,Z O aK,Z O aL]),(gx,49,[Zs xc,Z O dl,Z O dh,Z O wl,Z O wh,Z O pil,Z O boi,Zl fa fn fc]),(gm,49,[Zs yc,Z O dl2,Z O dh2,Z O wl2,Z O wh2,Z O pil2,Z O boi2,Zl fa2 fn2 fc2])]:List (Nat × TypeId × List Value)),x.1<v7.heap.size) (fun x hx=>(HL8.out.loc x hx).1.lt)
    have HGI:=Zh (p:=v7.heap.size≤gi) ((HBT.out.lt gi rfl).1)
    have HINT:=Zh (p:=um=(both src src2).length∧um≤icap∧icap≤maxLen∧icur.size=icap*1∧icur.toList.take (um*1)=intCells (both src src2)) (⟨HBM.out,hic,him,his,hit⟩)
    have HL9:=Zh (p:=Locs w v8 [(gs,36,[Zl t1a n t1c,Z O aA,Z O aB,Z O aC,Z O aD,Z O aE,Z O aF,Z O aG,Z O aH,Z O aI,Z O aJ,Z O aK,Z O aL]),(gd,55,[Z O 6,Z O day,Zs code,Zs aM,Z O al,Z O ah,Z O bl,Z O bh]),(ge,36,[Zl none 0 0,Z O 0,Z O 0,Z O 0,Z O 0,Z O 0,Z O 0,Z O 0,Z O 0,Z O 0,Z O 0,Z O 0,Z O 0]),(g,49,flat rowCells aN++aO),(ga,34,[Z O aA,Z O aB,Z O aC,Z O aD,Z O aE,Z O aF,Z O aG,Z O aH,Z O aI,Z O aJ,Z O aK,Z O aL]),(gx,49,[Zs xc,Z O dl,Z O dh,Z O wl,Z O wh,Z O pil,Z O boi,Zl fa fn fc]),(gm,49,[Zs yc,Z O dl2,Z O dh2,Z O wl2,Z O wh2,Z O pil2,Z O boi2,Zl fa2 fn2 fc2]),(gi,3,icur.toList)] []) ((HL8.out.below HBB.out).adopt (by rw [Array.toArray_toList];exact hib) (Nat.le_trans HL8.out.low.size HGI.out) (fun x hx e=>by have h1:=HLX.out x hx;have h2:=HGI.out;omega))
    clear HL8 hib hic him his hit
    try change Till2 _ _ _ _ _∧wpAny2 _ _ _ _ _ _ _ _ _ _ _
    have HT:=MK1 v8 (HL9.out.blk 5 rfl)
    have HS:=MK2 v8 (HL9.out.blk 6 rfl)
    refine⟨⟨HS.out,fun _=>HT.out⟩,?_⟩
    try simp only [Za,Zb,Zc]
    refine till2_only (j:=21) (by kernel_rfl) rfl ?_
    clear HT HS
    refine Zw rfl 32 (.tmp 201) (.tmp 185) rfl gx 1 _ rfl rfl (HL9.out.there 5 (o:=1) (n:=2) rfl (Zn rfl)) size_bounds (by simp [Value.oneCell']) ?_
    change wpList _ _ _ _ _ (v8.setCells gx 1 [Z O (dl+dl2),Z O (dh+dh2)])
    have HL10:=Zh (p:=Locs w (v8.setCells gx 1 [Z O (dl+dl2),Z O (dh+dh2)]) [(gs,36,[Zl t1a n t1c,Z O aA,Z O aB,Z O aC,Z O aD,Z O aE,Z O aF,Z O aG,Z O aH,Z O aI,Z O aJ,Z O aK,Z O aL]),(gd,55,[Z O 6,Z O day,Zs code,Zs aM,Z O al,Z O ah,Z O bl,Z O bh]),(ge,36,[Zl none 0 0,Z O 0,Z O 0,Z O 0,Z O 0,Z O 0,Z O 0,Z O 0,Z O 0,Z O 0,Z O 0,Z O 0,Z O 0]),(g,49,flat rowCells aN++aO),(ga,34,[Z O aA,Z O aB,Z O aC,Z O aD,Z O aE,Z O aF,Z O aG,Z O aH,Z O aI,Z O aJ,Z O aK,Z O aL]),(gx,49,[Zs xc,Z O (dl+dl2),Z O (dh+dh2),Z O wl,Z O wh,Z O pil,Z O boi,Zl fa fn fc]),(gm,49,[Zs yc,Z O dl2,Z O dh2,Z O wl2,Z O wh2,Z O pil2,Z O boi2,Zl fa2 fn2 fc2]),(gi,3,icur.toList)] []) (HL9.out.put 5 1 _ rfl)
    clear HL9
    generalize World.setCells _ _ _ _=v9 at HL10 ⊢
    change Till2 _ _ _ _ _∧wpAny2 _ _ _ _ _ _ _ _ _ _ _
    try change Till2 _ _ _ _ _∧wpAny2 _ _ _ _ _ _ _ _ _ _ _
    have HS:=MK2 v9 (HL10.out.blk 6 rfl)
    refine⟨⟨HS.out,fun h=>by simp at h⟩,?_⟩
    try simp only [Za,Zb,Zc]
    refine till2_pure (i:=22) (v:=.pointer (some ⟨gx,3,none⟩)) rfl rfl (by kernel_rfl) (fun _ _ _ h=>h) (yields_of rfl (fun w' _=>by simp [go_sem])) ⟨HS.out,fun h=>by simp at h⟩ ?_
    try simp only [Za,Zb,Zc]
    refine till2_only (j:=23) (by kernel_rfl) rfl ?_
    clear HS
    refine Zw rfl 32 (.tmp 202) (.tmp 190) rfl gx 3 _ rfl rfl (HL10.out.there 5 (o:=3) (n:=2) rfl (Zn rfl)) size_bounds (by simp [Value.oneCell']) ?_
    change wpList _ _ _ _ _ (v9.setCells gx 3 [Z O (wl+wl2),Z O (wh+wh2)])
    have HL11:=Zh (p:=Locs w (v9.setCells gx 3 [Z O (wl+wl2),Z O (wh+wh2)]) [(gs,36,[Zl t1a n t1c,Z O aA,Z O aB,Z O aC,Z O aD,Z O aE,Z O aF,Z O aG,Z O aH,Z O aI,Z O aJ,Z O aK,Z O aL]),(gd,55,[Z O 6,Z O day,Zs code,Zs aM,Z O al,Z O ah,Z O bl,Z O bh]),(ge,36,[Zl none 0 0,Z O 0,Z O 0,Z O 0,Z O 0,Z O 0,Z O 0,Z O 0,Z O 0,Z O 0,Z O 0,Z O 0,Z O 0]),(g,49,flat rowCells aN++aO),(ga,34,[Z O aA,Z O aB,Z O aC,Z O aD,Z O aE,Z O aF,Z O aG,Z O aH,Z O aI,Z O aJ,Z O aK,Z O aL]),(gx,49,[Zs xc,Z O (dl+dl2),Z O (dh+dh2),Z O (wl+wl2),Z O (wh+wh2),Z O pil,Z O boi,Zl fa fn fc]),(gm,49,[Zs yc,Z O dl2,Z O dh2,Z O wl2,Z O wh2,Z O pil2,Z O boi2,Zl fa2 fn2 fc2]),(gi,3,icur.toList)] []) (HL10.out.put 5 3 _ rfl)
    clear HL10
    generalize World.setCells _ _ _ _=v10 at HL11 ⊢
    change Till2 _ _ _ _ _∧wpAny2 _ _ _ _ _ _ _ _ _ _ _
    try change Till2 _ _ _ _ _∧wpAny2 _ _ _ _ _ _ _ _ _ _ _
    have HS:=MK2 v10 (HL11.out.blk 6 rfl)
    refine⟨⟨HS.out,fun h=>by simp at h⟩,?_⟩
    try simp only [Za,Zb,Zc]
    refine till2_pure (i:=24) (v:=.pointer (some ⟨gx,5,none⟩)) rfl rfl (by kernel_rfl) (fun _ _ _ h=>h) (yields_of rfl (fun w' _=>by simp [go_sem])) ⟨HS.out,fun h=>by simp at h⟩ ?_
    try simp only [Za,Zb,Zc]
    refine till2_only (j:=25) (by kernel_rfl) rfl ?_
    clear HS
    have hc9:v10.cell? ⟨gx,5,none⟩=some (Z O pil):=HL11.out.at 5 5 (v:=Z O pil) rfl rfl
    have hf9:=HL11.out.frozen 5 rfl 5
    go_wp2_with fail
    clear hc9 hf9
    have HL12:=Zh (p:=Locs w (v10.setCell ⟨gx,5,none⟩ (Z O pil2)) [(gs,36,[Zl t1a n t1c,Z O aA,Z O aB,Z O aC,Z O aD,Z O aE,Z O aF,Z O aG,Z O aH,Z O aI,Z O aJ,Z O aK,Z O aL]),(gd,55,[Z O 6,Z O day,Zs code,Zs aM,Z O al,Z O ah,Z O bl,Z O bh]),(ge,36,[Zl none 0 0,Z O 0,Z O 0,Z O 0,Z O 0,Z O 0,Z O 0,Z O 0,Z O 0,Z O 0,Z O 0,Z O 0,Z O 0]),(g,49,flat rowCells aN++aO),(ga,34,[Z O aA,Z O aB,Z O aC,Z O aD,Z O aE,Z O aF,Z O aG,Z O aH,Z O aI,Z O aJ,Z O aK,Z O aL]),(gx,49,[Zs xc,Z O (dl+dl2),Z O (dh+dh2),Z O (wl+wl2),Z O (wh+wh2),Z O pil2,Z O boi,Zl fa fn fc]),(gm,49,[Zs yc,Z O dl2,Z O dh2,Z O wl2,Z O wh2,Z O pil2,Z O boi2,Zl fa2 fn2 fc2]),(gi,3,icur.toList)] []) (HL11.out.setLoc1 5 [Zs xc,Z O (dl+dl2),Z O (dh+dh2),Z O (wl+wl2),Z O (wh+wh2)] [Z O boi,Zl fa fn fc] (Z O pil) (Z O pil2) 5 rfl rfl)
    clear HL11
    generalize World.setCell _ _ _=v11 at HL12 ⊢
    try change Till2 _ _ _ _ _∧wpAny2 _ _ _ _ _ _ _ _ _ _ _
    have HS:=MK2 v11 (HL12.out.blk 6 rfl)
    refine⟨⟨HS.out,fun h=>by simp at h⟩,?_⟩
    try simp only [Za,Zb,Zc]
    refine till2_pure (i:=26) (v:=.pointer (some ⟨gx,7,none⟩)) rfl rfl (by kernel_rfl) (fun _ _ _ h=>h) (yields_of rfl (fun w' _=>by simp [go_sem])) ⟨HS.out,fun h=>by simp at h⟩ ?_
    try simp only [Za,Zb,Zc]
    refine till2_only (j:=27) (by kernel_rfl) rfl ?_
    clear HS
    have hc9:v11.cell? ⟨gx,7,none⟩=some (Zl fa fn fc):=HL12.out.at 5 7 (v:=Zl fa fn fc) rfl rfl
    have hf9:=HL12.out.frozen 5 rfl 7
    go_wp2_with fail
    clear hc9 hf9
    have HL13:=Zh (p:=Locs w (v11.setCell ⟨gx,7,none⟩ (Zl (some ⟨gi,0,none⟩) um icap)) [(gs,36,[Zl t1a n t1c,Z O aA,Z O aB,Z O aC,Z O aD,Z O aE,Z O aF,Z O aG,Z O aH,Z O aI,Z O aJ,Z O aK,Z O aL]),(gd,55,[Z O 6,Z O day,Zs code,Zs aM,Z O al,Z O ah,Z O bl,Z O bh]),(ge,36,[Zl none 0 0,Z O 0,Z O 0,Z O 0,Z O 0,Z O 0,Z O 0,Z O 0,Z O 0,Z O 0,Z O 0,Z O 0,Z O 0]),(g,49,flat rowCells aN++aO),(ga,34,[Z O aA,Z O aB,Z O aC,Z O aD,Z O aE,Z O aF,Z O aG,Z O aH,Z O aI,Z O aJ,Z O aK,Z O aL]),(gx,49,[Zs xc,Z O (dl+dl2),Z O (dh+dh2),Z O (wl+wl2),Z O (wh+wh2),Z O pil2,Z O boi,Zl (some ⟨gi,0,none⟩) um icap]),(gm,49,[Zs yc,Z O dl2,Z O dh2,Z O wl2,Z O wh2,Z O pil2,Z O boi2,Zl fa2 fn2 fc2]),(gi,3,icur.toList)] []) (HL12.out.setLoc1 5 [Zs xc,Z O (dl+dl2),Z O (dh+dh2),Z O (wl+wl2),Z O (wh+wh2),Z O pil2,Z O boi] [] (Zl fa fn fc) (Zl (some ⟨gi,0,none⟩) um icap) 7 rfl rfl)
    clear HL12
    generalize World.setCell _ _ _=v12 at HL13 ⊢
    try change Till2 _ _ _ _ _∧wpAny2 _ _ _ _ _ _ _ _ _ _ _
    have HS:=MK2 v12 (HL13.out.blk 6 rfl)
    refine⟨⟨HS.out,fun h=>by simp at h⟩,?_⟩
    try simp only [Za,Zb,Zc]
    refine till2_done (by kernel_rfl) ?_
    clear HS
    try simp only [Act.put]
    go_wp2_with fail
    go_meet
    case rel=>exact⟨gi,um,icap,icur,HINT,Zh (by rw [HME.out];exact HL13.out)⟩
   ·skip
    have hmd:decide (pil<pil2)=false:=by simpa using hm
    have HME:=Zh (show max pil pil2=pil by omega)
    have hm':pil2≤pil:=by omega
    refine region_till2 [21,23,25,27] (fun w'=>Blk w' gx 49 #[Zs xc,Z O dl,Z O dh,Z O wl,Z O wh,Z O pil,Z O boi,Zl fa fn fc]) (fun w'=>Blk w' gm 49 #[Zs yc,Z O dl2,Z O dh2,Z O wl2,Z O wh2,Z O pil2,Z O boi2,Zl fa2 fn2 fc2]) 28 [false,false,false,false,false,false,false,false,false,false,false,false,false,false,false,false,false,false,false,false,false,false,false,false,false,false,false,false] (by kernel_rfl) rfl rfl ?_
    have MK3:=fun(W:World) (h:(fun w'=>Blk w' gx 49 #[Zs xc,Z O dl,Z O dh,Z O wl,Z O wh,Z O pil,Z O boi,Zl fa fn fc]) W)=>Zh h
    have MK4:=fun(W:World) (h:(fun w'=>Blk w' gm 49 #[Zs yc,Z O dl2,Z O dh2,Z O wl2,Z O wh2,Z O pil2,Z O boi2,Zl fa2 fn2 fc2]) W)=>Zh h
    have HL6:=Zh (HL5.out.drew)
    clear HL5
    generalize v4.drew=v13 at HL6 ⊢
    have HT:=MK3 v13 (HL6.out.blk 5 rfl)
    have HS:=MK4 v13 (HL6.out.blk 6 rfl)
    refine till2_pure (i:=0) (v:=.pointer (some ⟨gx,1,none⟩)) rfl rfl (by kernel_rfl) (fun _ _ _ h=>h) (yields_of rfl (fun w' _=>by simp [go_sem])) ⟨HS.out,fun _=>HT.out⟩ ?_
    try simp only [Za,Zb,Zc]
    refine till2_load (i:=1) (v:=.agg #[Z O dl,Z O dh]) rfl rfl (by kernel_rfl) (fun _ _ _ h=>h) (yields_mid rfl 32 (.tmp 181) rfl (gx) 1 rfl [Z O dl,Z O dh] _ (fun w' hw'=>Blk.range hw' 1 _ rfl) Try.underlying32 rfl (by kernel_rfl)) ⟨HS.out,fun _=>HT.out⟩ ?_
    try simp only [Za,Zb,Zc]
    refine till2_pure (i:=2) (v:=.pointer (some ⟨gm,1,none⟩)) rfl rfl (by kernel_rfl) (fun _ _ _ h=>h) (yields_of rfl (fun w' _=>by simp [go_sem])) ⟨HS.out,fun _=>HT.out⟩ ?_
    try simp only [Za,Zb,Zc]
    refine till2_keep (i:=3) (v:=.agg #[Z O dl2,Z O dh2]) rfl rfl (by kernel_rfl) (fun _ _ _ h=>h) (yields_mid rfl 32 (.tmp 183) rfl (gm) 1 rfl [Z O dl2,Z O dh2] _ (fun w' hw'=>Blk.range hw' 1 _ rfl) Try.underlying32 rfl (by kernel_rfl)) ⟨HS.out,fun _=>HT.out⟩ ?_
    try simp only [Za,Zb,Zc]
    refine till2_pure (i:=5) (v:=.pointer (some ⟨gx,3,none⟩)) rfl rfl (by kernel_rfl) (fun _ _ _ h=>h) (yields_of rfl (fun w' _=>by simp [go_sem])) ⟨HS.out,fun _=>HT.out⟩ ?_
    try simp only [Za,Zb,Zc]
    refine till2_load (i:=6) (v:=.agg #[Z O wl,Z O wh]) rfl rfl (by kernel_rfl) (fun _ _ _ h=>h) (yields_mid rfl 32 (.tmp 186) rfl (gx) 3 rfl [Z O wl,Z O wh] _ (fun w' hw'=>Blk.range hw' 3 _ rfl) Try.underlying32 rfl (by kernel_rfl)) ⟨HS.out,fun _=>HT.out⟩ ?_
    try simp only [Za,Zb,Zc]
    refine till2_pure (i:=7) (v:=.pointer (some ⟨gm,3,none⟩)) rfl rfl (by kernel_rfl) (fun _ _ _ h=>h) (yields_of rfl (fun w' _=>by simp [go_sem])) ⟨HS.out,fun _=>HT.out⟩ ?_
    try simp only [Za,Zb,Zc]
    refine till2_keep (i:=8) (v:=.agg #[Z O wl2,Z O wh2]) rfl rfl (by kernel_rfl) (fun _ _ _ h=>h) (yields_mid rfl 32 (.tmp 188) rfl (gm) 3 rfl [Z O wl2,Z O wh2] _ (fun w' hw'=>Blk.range hw' 3 _ rfl) Try.underlying32 rfl (by kernel_rfl)) ⟨HS.out,fun _=>HT.out⟩ ?_
    try simp only [Za,Zb,Zc]
    refine till2_pure (i:=10) (v:=.pointer (some ⟨gx,5,none⟩)) rfl rfl (by kernel_rfl) (fun _ _ _ h=>h) (yields_of rfl (fun w' _=>by simp [go_sem])) ⟨HS.out,fun _=>HT.out⟩ ?_
    try simp only [Za,Zb,Zc]
    refine till2_load (i:=11) (v:=Z O pil) rfl rfl (by kernel_rfl) (fun _ _ _ h=>h) (yields_of rfl (fun w' hw'=>by have hcx:w'.cell? ⟨gx,5,none⟩=some (Z O pil):=Blk.at hw' 5 _ rfl;simp [go_sem,hcx])) ⟨HS.out,fun _=>HT.out⟩ ?_
    try simp only [Za,Zb,Zc]
    refine till2_pure (i:=12) (v:=.pointer (some ⟨gm,5,none⟩)) rfl rfl (by kernel_rfl) (fun _ _ _ h=>h) (yields_of rfl (fun w' _=>by simp [go_sem])) ⟨HS.out,fun _=>HT.out⟩ ?_
    try simp only [Za,Zb,Zc]
    refine till2_keep (i:=13) (v:=Z O pil2) rfl rfl (by kernel_rfl) (fun _ _ _ h=>h) (yields_of rfl (fun w' hw'=>by have hcx:w'.cell? ⟨gm,5,none⟩=some (Z O pil2):=Blk.at hw' 5 _ rfl;simp [go_sem,hcx])) ⟨HS.out,fun _=>HT.out⟩ ?_
    try simp only [Za,Zb,Zc]
    refine till2_pure (i:=14) (v:=Z O pil) rfl rfl (by kernel_rfl) (fun _ _ _ h=>h) (yields_of rfl (fun w' _=>by simp [go_sem,hm,hm'];try omega)) ⟨HS.out,fun _=>HT.out⟩ ?_
    try simp only [Za,Zb,Zc]
    refine till2_pure (i:=15) (v:=.pointer (some ⟨gx,7,none⟩)) rfl rfl (by kernel_rfl) (fun _ _ _ h=>h) (yields_of rfl (fun w' _=>by simp [go_sem])) ⟨HS.out,fun _=>HT.out⟩ ?_
    try simp only [Za,Zb,Zc]
    refine till2_load (i:=16) (v:=Zl fa fn fc) rfl rfl (by kernel_rfl) (fun _ _ _ h=>h) (yields_of rfl (fun w' hw'=>by have hcx:w'.cell? ⟨gx,7,none⟩=some (Zl fa fn fc):=Blk.at hw' 7 _ rfl;simp [go_sem,hcx])) ⟨HS.out,fun _=>HT.out⟩ ?_
    try simp only [Za,Zb,Zc]
    refine till2_pure (i:=17) (v:=.pointer (some ⟨gm,7,none⟩)) rfl rfl (by kernel_rfl) (fun _ _ _ h=>h) (yields_of rfl (fun w' _=>by simp [go_sem])) ⟨HS.out,fun _=>HT.out⟩ ?_
    try simp only [Za,Zb,Zc]
    refine till2_keep (i:=18) (v:=Zl fa2 fn2 fc2) rfl rfl (by kernel_rfl) (fun _ _ _ h=>h) (yields_of rfl (fun w' hw'=>by have hcx:w'.cell? ⟨gm,7,none⟩=some (Zl fa2 fn2 fc2):=Blk.at hw' 7 _ rfl;simp [go_sem,hcx])) ⟨HS.out,fun _=>HT.out⟩ ?_
    try simp only [Za,Zb,Zc]
    refine till2_only (j:=4) (by kernel_rfl) rfl ?_
    clear HT HS
    go_wp2_with (go_at_call 70;refine(HC1.out _).mono ?_;rintro e v14 ⟨rfl,hb⟩;have HL7:=Zh (HL6.out.below hb);clear hb HL6)
    try change Till2 _ _ _ _ _∧wpAny2 _ _ _ _ _ _ _ _ _ _ _
    have HT:=MK3 v14 (HL7.out.blk 5 rfl)
    have HS:=MK4 v14 (HL7.out.blk 6 rfl)
    refine⟨⟨HS.out,fun _=>HT.out⟩,?_⟩
    try simp only [Za,Zb,Zc]
    refine till2_pure (i:=20) (v:=.pointer (some ⟨gx,1,none⟩)) rfl rfl (by kernel_rfl) (fun _ _ _ h=>h) (yields_of rfl (fun w' _=>by simp [go_sem])) ⟨HS.out,fun _=>HT.out⟩ ?_
    try simp only [Za,Zb,Zc]
    refine till2_only (j:=9) (by kernel_rfl) rfl ?_
    clear HT HS
    go_wp2_with (go_at_call 70;refine(HC2.out _).mono ?_;rintro e v15 ⟨rfl,hb⟩;have HL8:=Zh (HL7.out.below hb);clear hb HL7)
    try change Till2 _ _ _ _ _∧wpAny2 _ _ _ _ _ _ _ _ _ _ _
    have HT:=MK3 v15 (HL8.out.blk 5 rfl)
    have HS:=MK4 v15 (HL8.out.blk 6 rfl)
    refine⟨⟨HS.out,fun _=>HT.out⟩,?_⟩
    try simp only [Za,Zb,Zc]
    refine till2_only (j:=19) (by kernel_rfl) rfl ?_
    clear HT HS
    go_wp2_with (go_at_call 56;refine(rboth_calls (Zl fa fn fc) (Zl fa2 fn2 fc2) src src2 _ ((HST.out _ HL8.out.low).froms _ (List.mem_of_getElem? HP.out)) ((HST.out _ HL8.out.low).froms _ (List.mem_of_getElem? HP2.out)) (HSTW.out.fromsLen _ (List.mem_of_getElem? HP.out)) (HSTW.out.fromsLen _ (List.mem_of_getElem? HP2.out))).mono ?_;rintro e v16 ⟨u6,um,rfl,hb,hm6,how⟩;have HBT:=Zh how;have HBM:=Zh hm6;have HBB:=Zh hb;clear how hm6 hb)
    obtain⟨gi,icap,icur,hiv,hib,hic,him,his,hit⟩:=row_block HBT.out (by rw [HBM.out];exact HBP.out)
    subst hiv
    have HLX:=Zh (p:=∀ x ∈ ([(gs,36,[Zl t1a n t1c,Z O aA,Z O aB,Z O aC,Z O aD,Z O aE,Z O aF,Z O aG,Z O aH,Z O aI,Z O aJ,Z O aK,Z O aL]),(gd,55,[Z O 6,Z O day,Zs code,Zs aM,Z O al,Z O ah,Z O bl,Z O bh]),(ge,36,[Zl none 0 0,Z O 0,Z O 0,Z O 0,Z O 0,Z O 0,Z O 0,Z O 0,Z O 0,Z O 0,Z O 0,Z O 0,Z O 0]),(g,49,flat rowCells aN++aO),(ga,34,[Z O aA,Z O aB,Z O aC,Z O aD,Z O aE,Z O aF,Z O aG,Z O aH,Z O aI,Z O aJ,Z O aK,Z O aL]),(gx,49,[Zs xc,Z O dl,Z O dh,Z O wl,Z O wh,Z O pil,Z O boi,Zl fa fn fc]),(gm,49,[Zs yc,Z O dl2,Z O dh2,Z O wl2,Z O wh2,Z O pil2,Z O boi2,Zl fa2 fn2 fc2])]:List (Nat × TypeId × List Value)),x.1<v15.heap.size) (fun x hx=>(HL8.out.loc x hx).1.lt)
    have HGI:=Zh (p:=v15.heap.size≤gi) ((HBT.out.lt gi rfl).1)
    have HINT:=Zh (p:=um=(both src src2).length∧um≤icap∧icap≤maxLen∧icur.size=icap*1∧icur.toList.take (um*1)=intCells (both src src2)) (⟨HBM.out,hic,him,his,hit⟩)
    have HL9:=Zh (p:=Locs w v16 [(gs,36,[Zl t1a n t1c,Z O aA,Z O aB,Z O aC,Z O aD,Z O aE,Z O aF,Z O aG,Z O aH,Z O aI,Z O aJ,Z O aK,Z O aL]),(gd,55,[Z O 6,Z O day,Zs code,Zs aM,Z O al,Z O ah,Z O bl,Z O bh]),(ge,36,[Zl none 0 0,Z O 0,Z O 0,Z O 0,Z O 0,Z O 0,Z O 0,Z O 0,Z O 0,Z O 0,Z O 0,Z O 0,Z O 0]),(g,49,flat rowCells aN++aO),(ga,34,[Z O aA,Z O aB,Z O aC,Z O aD,Z O aE,Z O aF,Z O aG,Z O aH,Z O aI,Z O aJ,Z O aK,Z O aL]),(gx,49,[Zs xc,Z O dl,Z O dh,Z O wl,Z O wh,Z O pil,Z O boi,Zl fa fn fc]),(gm,49,[Zs yc,Z O dl2,Z O dh2,Z O wl2,Z O wh2,Z O pil2,Z O boi2,Zl fa2 fn2 fc2]),(gi,3,icur.toList)] []) ((HL8.out.below HBB.out).adopt (by rw [Array.toArray_toList];exact hib) (Nat.le_trans HL8.out.low.size HGI.out) (fun x hx e=>by have h1:=HLX.out x hx;have h2:=HGI.out;omega))
    clear HL8 hib hic him his hit
    try change Till2 _ _ _ _ _∧wpAny2 _ _ _ _ _ _ _ _ _ _ _
    have HT:=MK3 v16 (HL9.out.blk 5 rfl)
    have HS:=MK4 v16 (HL9.out.blk 6 rfl)
    refine⟨⟨HS.out,fun _=>HT.out⟩,?_⟩
    try simp only [Za,Zb,Zc]
    refine till2_only (j:=21) (by kernel_rfl) rfl ?_
    clear HT HS
    refine Zw rfl 32 (.tmp 201) (.tmp 185) rfl gx 1 _ rfl rfl (HL9.out.there 5 (o:=1) (n:=2) rfl (Zn rfl)) size_bounds (by simp [Value.oneCell']) ?_
    change wpList _ _ _ _ _ (v16.setCells gx 1 [Z O (dl+dl2),Z O (dh+dh2)])
    have HL10:=Zh (p:=Locs w (v16.setCells gx 1 [Z O (dl+dl2),Z O (dh+dh2)]) [(gs,36,[Zl t1a n t1c,Z O aA,Z O aB,Z O aC,Z O aD,Z O aE,Z O aF,Z O aG,Z O aH,Z O aI,Z O aJ,Z O aK,Z O aL]),(gd,55,[Z O 6,Z O day,Zs code,Zs aM,Z O al,Z O ah,Z O bl,Z O bh]),(ge,36,[Zl none 0 0,Z O 0,Z O 0,Z O 0,Z O 0,Z O 0,Z O 0,Z O 0,Z O 0,Z O 0,Z O 0,Z O 0,Z O 0]),(g,49,flat rowCells aN++aO),(ga,34,[Z O aA,Z O aB,Z O aC,Z O aD,Z O aE,Z O aF,Z O aG,Z O aH,Z O aI,Z O aJ,Z O aK,Z O aL]),(gx,49,[Zs xc,Z O (dl+dl2),Z O (dh+dh2),Z O wl,Z O wh,Z O pil,Z O boi,Zl fa fn fc]),(gm,49,[Zs yc,Z O dl2,Z O dh2,Z O wl2,Z O wh2,Z O pil2,Z O boi2,Zl fa2 fn2 fc2]),(gi,3,icur.toList)] []) (HL9.out.put 5 1 _ rfl)
    clear HL9
    generalize World.setCells _ _ _ _=v17 at HL10 ⊢
    change Till2 _ _ _ _ _∧wpAny2 _ _ _ _ _ _ _ _ _ _ _
    try change Till2 _ _ _ _ _∧wpAny2 _ _ _ _ _ _ _ _ _ _ _
    have HS:=MK4 v17 (HL10.out.blk 6 rfl)
    refine⟨⟨HS.out,fun h=>by simp at h⟩,?_⟩
    try simp only [Za,Zb,Zc]
    refine till2_pure (i:=22) (v:=.pointer (some ⟨gx,3,none⟩)) rfl rfl (by kernel_rfl) (fun _ _ _ h=>h) (yields_of rfl (fun w' _=>by simp [go_sem])) ⟨HS.out,fun h=>by simp at h⟩ ?_
    try simp only [Za,Zb,Zc]
    refine till2_only (j:=23) (by kernel_rfl) rfl ?_
    clear HS
    refine Zw rfl 32 (.tmp 202) (.tmp 190) rfl gx 3 _ rfl rfl (HL10.out.there 5 (o:=3) (n:=2) rfl (Zn rfl)) size_bounds (by simp [Value.oneCell']) ?_
    change wpList _ _ _ _ _ (v17.setCells gx 3 [Z O (wl+wl2),Z O (wh+wh2)])
    have HL11:=Zh (p:=Locs w (v17.setCells gx 3 [Z O (wl+wl2),Z O (wh+wh2)]) [(gs,36,[Zl t1a n t1c,Z O aA,Z O aB,Z O aC,Z O aD,Z O aE,Z O aF,Z O aG,Z O aH,Z O aI,Z O aJ,Z O aK,Z O aL]),(gd,55,[Z O 6,Z O day,Zs code,Zs aM,Z O al,Z O ah,Z O bl,Z O bh]),(ge,36,[Zl none 0 0,Z O 0,Z O 0,Z O 0,Z O 0,Z O 0,Z O 0,Z O 0,Z O 0,Z O 0,Z O 0,Z O 0,Z O 0]),(g,49,flat rowCells aN++aO),(ga,34,[Z O aA,Z O aB,Z O aC,Z O aD,Z O aE,Z O aF,Z O aG,Z O aH,Z O aI,Z O aJ,Z O aK,Z O aL]),(gx,49,[Zs xc,Z O (dl+dl2),Z O (dh+dh2),Z O (wl+wl2),Z O (wh+wh2),Z O pil,Z O boi,Zl fa fn fc]),(gm,49,[Zs yc,Z O dl2,Z O dh2,Z O wl2,Z O wh2,Z O pil2,Z O boi2,Zl fa2 fn2 fc2]),(gi,3,icur.toList)] []) (HL10.out.put 5 3 _ rfl)
    clear HL10
    generalize World.setCells _ _ _ _=v18 at HL11 ⊢
    change Till2 _ _ _ _ _∧wpAny2 _ _ _ _ _ _ _ _ _ _ _
    try change Till2 _ _ _ _ _∧wpAny2 _ _ _ _ _ _ _ _ _ _ _
    have HS:=MK4 v18 (HL11.out.blk 6 rfl)
    refine⟨⟨HS.out,fun h=>by simp at h⟩,?_⟩
    try simp only [Za,Zb,Zc]
    refine till2_pure (i:=24) (v:=.pointer (some ⟨gx,5,none⟩)) rfl rfl (by kernel_rfl) (fun _ _ _ h=>h) (yields_of rfl (fun w' _=>by simp [go_sem])) ⟨HS.out,fun h=>by simp at h⟩ ?_
    try simp only [Za,Zb,Zc]
    refine till2_only (j:=25) (by kernel_rfl) rfl ?_
    clear HS
    have hc9:v18.cell? ⟨gx,5,none⟩=some (Z O pil):=HL11.out.at 5 5 (v:=Z O pil) rfl rfl
    have hf9:=HL11.out.frozen 5 rfl 5
    go_wp2_with fail
    clear hc9 hf9
    have HL12:=Zh (p:=Locs w (v18.setCell ⟨gx,5,none⟩ (Z O pil)) [(gs,36,[Zl t1a n t1c,Z O aA,Z O aB,Z O aC,Z O aD,Z O aE,Z O aF,Z O aG,Z O aH,Z O aI,Z O aJ,Z O aK,Z O aL]),(gd,55,[Z O 6,Z O day,Zs code,Zs aM,Z O al,Z O ah,Z O bl,Z O bh]),(ge,36,[Zl none 0 0,Z O 0,Z O 0,Z O 0,Z O 0,Z O 0,Z O 0,Z O 0,Z O 0,Z O 0,Z O 0,Z O 0,Z O 0]),(g,49,flat rowCells aN++aO),(ga,34,[Z O aA,Z O aB,Z O aC,Z O aD,Z O aE,Z O aF,Z O aG,Z O aH,Z O aI,Z O aJ,Z O aK,Z O aL]),(gx,49,[Zs xc,Z O (dl+dl2),Z O (dh+dh2),Z O (wl+wl2),Z O (wh+wh2),Z O pil,Z O boi,Zl fa fn fc]),(gm,49,[Zs yc,Z O dl2,Z O dh2,Z O wl2,Z O wh2,Z O pil2,Z O boi2,Zl fa2 fn2 fc2]),(gi,3,icur.toList)] []) (HL11.out.setLoc1 5 [Zs xc,Z O (dl+dl2),Z O (dh+dh2),Z O (wl+wl2),Z O (wh+wh2)] [Z O boi,Zl fa fn fc] (Z O pil) (Z O pil) 5 rfl rfl)
    clear HL11
    generalize World.setCell _ _ _=v19 at HL12 ⊢
    try change Till2 _ _ _ _ _∧wpAny2 _ _ _ _ _ _ _ _ _ _ _
    have HS:=MK4 v19 (HL12.out.blk 6 rfl)
    refine⟨⟨HS.out,fun h=>by simp at h⟩,?_⟩
    try simp only [Za,Zb,Zc]
    refine till2_pure (i:=26) (v:=.pointer (some ⟨gx,7,none⟩)) rfl rfl (by kernel_rfl) (fun _ _ _ h=>h) (yields_of rfl (fun w' _=>by simp [go_sem])) ⟨HS.out,fun h=>by simp at h⟩ ?_
    try simp only [Za,Zb,Zc]
    refine till2_only (j:=27) (by kernel_rfl) rfl ?_
    clear HS
    have hc9:v19.cell? ⟨gx,7,none⟩=some (Zl fa fn fc):=HL12.out.at 5 7 (v:=Zl fa fn fc) rfl rfl
    have hf9:=HL12.out.frozen 5 rfl 7
    go_wp2_with fail
    clear hc9 hf9
    have HL13:=Zh (p:=Locs w (v19.setCell ⟨gx,7,none⟩ (Zl (some ⟨gi,0,none⟩) um icap)) [(gs,36,[Zl t1a n t1c,Z O aA,Z O aB,Z O aC,Z O aD,Z O aE,Z O aF,Z O aG,Z O aH,Z O aI,Z O aJ,Z O aK,Z O aL]),(gd,55,[Z O 6,Z O day,Zs code,Zs aM,Z O al,Z O ah,Z O bl,Z O bh]),(ge,36,[Zl none 0 0,Z O 0,Z O 0,Z O 0,Z O 0,Z O 0,Z O 0,Z O 0,Z O 0,Z O 0,Z O 0,Z O 0,Z O 0]),(g,49,flat rowCells aN++aO),(ga,34,[Z O aA,Z O aB,Z O aC,Z O aD,Z O aE,Z O aF,Z O aG,Z O aH,Z O aI,Z O aJ,Z O aK,Z O aL]),(gx,49,[Zs xc,Z O (dl+dl2),Z O (dh+dh2),Z O (wl+wl2),Z O (wh+wh2),Z O pil,Z O boi,Zl (some ⟨gi,0,none⟩) um icap]),(gm,49,[Zs yc,Z O dl2,Z O dh2,Z O wl2,Z O wh2,Z O pil2,Z O boi2,Zl fa2 fn2 fc2]),(gi,3,icur.toList)] []) (HL12.out.setLoc1 5 [Zs xc,Z O (dl+dl2),Z O (dh+dh2),Z O (wl+wl2),Z O (wh+wh2),Z O pil,Z O boi] [] (Zl fa fn fc) (Zl (some ⟨gi,0,none⟩) um icap) 7 rfl rfl)
    clear HL12
    generalize World.setCell _ _ _=v20 at HL13 ⊢
    try change Till2 _ _ _ _ _∧wpAny2 _ _ _ _ _ _ _ _ _ _ _
    have HS:=MK4 v20 (HL13.out.blk 6 rfl)
    refine⟨⟨HS.out,fun h=>by simp at h⟩,?_⟩
    try simp only [Za,Zb,Zc]
    refine till2_done (by kernel_rfl) ?_
    clear HS
    try simp only [Act.put]
    go_wp2_with fail
    go_meet
    case rel=>exact⟨gi,um,icap,icur,HINT,Zh (by rw [HME.out];exact HL13.out)⟩
  case rest =>
   obtain⟨gi,um,icap,icur,HINT,HL80⟩:=hcut
   generalize wc=wc1 at HL80 ⊢
   by_cases ha:boi<0
   ·skip
    have had:decide (boi<0)=true:=by simpa using ha
    have HLB:=Zh (p:=lastBoil boi boi2 = -1) (by unfold lastBoil;rw [if_pos (.inl ha)])
    have q0:=HL80.out.at 5 6 (v:=Z O boi) rfl rfl
    have q1:=HL80.out.at 6 6 (v:=Z O boi2) rfl rfl
    have hf9:=HL80.out.frozen 5 rfl 6
    go_upto_region 34 with fail
    clear q0 q1 hf9
    have HL81:=Zh (p:=Locs w (wc1.setCell ⟨gx,6,none⟩ (Z O (-1))) [(gs,36,[Zl t1a n t1c,Z O aA,Z O aB,Z O aC,Z O aD,Z O aE,Z O aF,Z O aG,Z O aH,Z O aI,Z O aJ,Z O aK,Z O aL]),(gd,55,[Z O 6,Z O day,Zs code,Zs aM,Z O al,Z O ah,Z O bl,Z O bh]),(ge,36,[Zl none 0 0,Z O 0,Z O 0,Z O 0,Z O 0,Z O 0,Z O 0,Z O 0,Z O 0,Z O 0,Z O 0,Z O 0,Z O 0]),(g,49,flat rowCells aN++aO),(ga,34,[Z O aA,Z O aB,Z O aC,Z O aD,Z O aE,Z O aF,Z O aG,Z O aH,Z O aI,Z O aJ,Z O aK,Z O aL]),(gx,49,[Zs xc,Z O (dl+dl2),Z O (dh+dh2),Z O (wl+wl2),Z O (wh+wh2),Z O (max pil pil2),Z O (lastBoil boi boi2),Zl (some ⟨gi,0,none⟩) um icap]),(gm,49,[Zs yc,Z O dl2,Z O dh2,Z O wl2,Z O wh2,Z O pil2,Z O boi2,Zl fa2 fn2 fc2]),(gi,3,icur.toList)] []) (by rw [HLB.out];exact HL80.out.setLoc1 5 [Zs xc,Z O (dl+dl2),Z O (dh+dh2),Z O (wl+wl2),Z O (wh+wh2),Z O (max pil pil2)] [Zl (some ⟨gi,0,none⟩) um icap] (Z O boi) (Z O (-1)) 6 rfl rfl)
    clear HL80
    generalize World.setCell _ _ _=v90 at HL81 ⊢
    try simp only [Act.put]
    have s0:=HL81.out.at 5 0 (v:=Zs xc) rfl rfl
    have s1:=HL81.out.at 5 1 (v:=Z O (dl+dl2)) rfl rfl
    have s2:=HL81.out.at 5 2 (v:=Z O (dh+dh2)) rfl rfl
    have s3:=HL81.out.at 5 3 (v:=Z O (wl+wl2)) rfl rfl
    have s4:=HL81.out.at 5 4 (v:=Z O (wh+wh2)) rfl rfl
    have s5:=HL81.out.at 5 5 (v:=Z O (max pil pil2)) rfl rfl
    have s6:=HL81.out.at 5 6 (v:=Z O (lastBoil boi boi2)) rfl rfl
    have s7:=HL81.out.at 5 7 (v:=Zl (some ⟨gi,0,none⟩) um icap) rfl rfl
    have s8:=HL81.out.at 1 0 (v:=Z O 6) rfl rfl
    have HLr:=Zh (p:=Locs w (v90.setCells g (k*8) [Zs xc,Z O (dl+dl2),Z O (dh+dh2),Z O (wl+wl2),Z O (wh+wh2),Z O (max pil pil2),Z O (lastBoil boi boi2),Zl (some ⟨gi,0,none⟩) um icap]) [(gs,36,[Zl t1a n t1c,Z O aA,Z O aB,Z O aC,Z O aD,Z O aE,Z O aF,Z O aG,Z O aH,Z O aI,Z O aJ,Z O aK,Z O aL]),(gd,55,[Z O 6,Z O day,Zs code,Zs aM,Z O al,Z O ah,Z O bl,Z O bh]),(ge,36,[Zl none 0 0,Z O 0,Z O 0,Z O 0,Z O 0,Z O 0,Z O 0,Z O 0,Z O 0,Z O 0,Z O 0,Z O 0,Z O 0]),(g,49,flat rowCells (aN.set k (⟨xc,⟨dl+dl2,dh+dh2⟩,⟨wl+wl2,wh+wh2⟩,max pil pil2,lastBoil boi boi2,both src src2⟩,Value.slice (some ⟨gi,0,none⟩) um icap))++aO),(ga,34,[Z O aA,Z O aB,Z O aC,Z O aD,Z O aE,Z O aF,Z O aG,Z O aH,Z O aI,Z O aJ,Z O aK,Z O aL]),(gx,49,[Zs xc,Z O (dl+dl2),Z O (dh+dh2),Z O (wl+wl2),Z O (wh+wh2),Z O (max pil pil2),Z O (lastBoil boi boi2),Zl (some ⟨gi,0,none⟩) um icap]),(gm,49,[Zs yc,Z O dl2,Z O dh2,Z O wl2,Z O wh2,Z O pil2,Z O boi2,Zl fa2 fn2 fc2]),(gi,3,icur.toList)] []) (HL81.out.setRowS 3 rfl HKL.out (⟨xc,⟨dl+dl2,dh+dh2⟩,⟨wl+wl2,wh+wh2⟩,max pil pil2,lastBoil boi boi2,both src src2⟩,Value.slice (some ⟨gi,0,none⟩) um icap))
    have HTHR:=Zh (p:=v90.there g (k*8) 8) (HL81.out.there 3 rfl (by have h1:=HKL.out;rw [List.length_append,flat_length row_eight];omega))
    go_upto_region 36 with((with_reducible refine at_store 49 (.tmp 255) (.tmp 254) ?_);go_must (refine Zw rfl 49 (.tmp 255) (.tmp 254) rfl g (k*8) _ rfl rfl HTHR.out size_stack (by simp [Value.oneCell']) ?_);have HLs:=HLr;clear s0 s1 s2 s3 s4 s5 s6 s7 s8;have td:=HLs.out.at 1 0 (v:=Z O 6) rfl rfl)
    clear td HLs HTHR HL81
    obtain⟨l6,hL6⟩:∃ l6,l6=aN.set k (⟨xc,⟨dl+dl2,dh+dh2⟩,⟨wl+wl2,wh+wh2⟩,max pil pil2,lastBoil boi boi2,both src src2⟩,Value.slice (some ⟨gi,0,none⟩) um icap):=⟨_,rfl⟩
    rw [← hL6]at HLr
    have HL6:=Zh hL6
    have HLEN:=Zh (p:=l6.length=n) (by rw [hL6,List.length_set,← HN.out])
    have HSL6:=Zh (show ∀ p ∈ l6,∃ a n c,p.2=Zl a n c from fun p hp=>by
     rw [hL6]at hp
     rcases List.mem_or_eq_of_mem_set hp with h1 | rfl
     ·exact HFS.out p h1
     ·exact⟨_,_,_,rfl⟩)
    clear hL6
    have HL82:=HLr
    clear HLr
    generalize World.setCells _ _ _ _=wr at HL82 ⊢
    have HRW:=Zh (show wr.ownsRow w.heap.size 49 8 (Zl (some ⟨g,0,none⟩) n cap) l6.length (rowsCells l6)from by
     have h1:=(rowed_ofS (L:=[(gs,36,[Zl t1a n t1c,Z O aA,Z O aB,Z O aC,Z O aD,Z O aE,Z O aF,Z O aG,Z O aH,Z O aI,Z O aJ,Z O aK,Z O aL]),(gd,55,[Z O 6,Z O day,Zs code,Zs aM,Z O al,Z O ah,Z O bl,Z O bh]),(ge,36,[Zl none 0 0,Z O 0,Z O 0,Z O 0,Z O 0,Z O 0,Z O 0,Z O 0,Z O 0,Z O 0,Z O 0,Z O 0,Z O 0])]) (HL82.out.fewer (List.sublist_append_left ([(gs,36,[Zl t1a n t1c,Z O aA,Z O aB,Z O aC,Z O aD,Z O aE,Z O aF,Z O aG,Z O aH,Z O aI,Z O aJ,Z O aK,Z O aL]),(gd,55,[Z O 6,Z O day,Zs code,Zs aM,Z O al,Z O ah,Z O bl,Z O bh]),(ge,36,[Zl none 0 0,Z O 0,Z O 0,Z O 0,Z O 0,Z O 0,Z O 0,Z O 0,Z O 0,Z O 0,Z O 0,Z O 0,Z O 0]),(g,49,flat rowCells l6++aO)]:List (Nat × TypeId × List Value)) _) (List.Sublist.refl _)) HLEN.out HCAP.out).own
     rw [flat_rows]at h1
     rw [HLEN.out]
     exact h1)
    have HWO:=Zh (rwithout_calls (Zl (some ⟨g,0,none⟩) n cap) l6 o wr HRW.out (by rw [HLEN.out];exact hon) (by rw [HLEN.out];omega) HSL6.out)
    have s0:=HL82.out.at 1 0 (v:=Z O 6) rfl rfl
    go_wp2_with (first
     | (go_at_call 73;refine HWO.out.mono ?_;rintro e w6 ⟨v6,m6,rfl,hb6,hm6,how6⟩;obtain⟨va,vn,vc,rfl⟩:=row_slice how6;obtain rfl:vn=m6:=row_len how6;have HOW:=Zh how6;have HM6:=Zh hm6;have HL60:=Zh (HL82.out.below hb6);have HWS:=Zh (HL82.out.far 2 rfl).2;clear how6 hm6 hb6 s0;have t0:=HL60.out.at 4 0 (v:=Z O aA) rfl rfl;have t1:=HL60.out.at 4 1 (v:=Z O aB) rfl rfl;have t2:=HL60.out.at 4 2 (v:=Z O aC) rfl rfl;have t3:=HL60.out.at 4 3 (v:=Z O aD) rfl rfl;have t4:=HL60.out.at 4 4 (v:=Z O aE) rfl rfl;have t5:=HL60.out.at 4 5 (v:=Z O aF) rfl rfl;have t6:=HL60.out.at 4 6 (v:=Z O aG) rfl rfl;have t7:=HL60.out.at 4 7 (v:=Z O aH) rfl rfl;have t8:=HL60.out.at 4 8 (v:=Z O aI) rfl rfl;have t9:=HL60.out.at 4 9 (v:=Z O aJ) rfl rfl;have t10:=HL60.out.at 4 10 (v:=Z O aK) rfl rfl;have t11:=HL60.out.at 4 11 (v:=Z O aL) rfl rfl;have td:=HL60.out.at 1 0 (v:=Z O 6) rfl rfl)
     | ((with_reducible refine at_store 36 (.tmp 6) (.tmp 270) ?_);go_must (refine Zw rfl 36 (.tmp 6) (.tmp 270) rfl ge 0 _ rfl rfl (HL60.out.there 2 (o:=0) (n:=13) rfl (Zn rfl)) size_standing (by simp [Value.oneCell']) ?_)))
    clear t0 t1 t2 t3 t4 t5 t6 t7 t8 t9 t10 t11 td
    have HLf:=Zh (p:=Locs w (w6.setCells ge 0 [Zl va vn vc,Z O aA,Z O aB,Z O aC,Z O aD,Z O aE,Z O aF,Z O aG,Z O aH,Z O aI,Z O aJ,Z O aK,Z O aL]) [(gs,36,[Zl t1a n t1c,Z O aA,Z O aB,Z O aC,Z O aD,Z O aE,Z O aF,Z O aG,Z O aH,Z O aI,Z O aJ,Z O aK,Z O aL]),(gd,55,[Z O 6,Z O day,Zs code,Zs aM,Z O al,Z O ah,Z O bl,Z O bh]),(ge,36,[Zl va vn vc,Z O aA,Z O aB,Z O aC,Z O aD,Z O aE,Z O aF,Z O aG,Z O aH,Z O aI,Z O aJ,Z O aK,Z O aL]),(g,49,flat rowCells l6++aO),(ga,34,[Z O aA,Z O aB,Z O aC,Z O aD,Z O aE,Z O aF,Z O aG,Z O aH,Z O aI,Z O aJ,Z O aK,Z O aL]),(gx,49,[Zs xc,Z O (dl+dl2),Z O (dh+dh2),Z O (wl+wl2),Z O (wh+wh2),Z O (max pil pil2),Z O (lastBoil boi boi2),Zl (some ⟨gi,0,none⟩) um icap]),(gm,49,[Zs yc,Z O dl2,Z O dh2,Z O wl2,Z O wh2,Z O pil2,Z O boi2,Zl fa2 fn2 fc2]),(gi,3,icur.toList)] []) (HL60.out.put 2 0 _ rfl)
    have r0:=HLf.out.at 2 0 (v:=Zl va vn vc) rfl rfl
    have r1:=HLf.out.at 2 1 (v:=Z O aA) rfl rfl
    have r2:=HLf.out.at 2 2 (v:=Z O aB) rfl rfl
    have r3:=HLf.out.at 2 3 (v:=Z O aC) rfl rfl
    have r4:=HLf.out.at 2 4 (v:=Z O aD) rfl rfl
    have r5:=HLf.out.at 2 5 (v:=Z O aE) rfl rfl
    have r6:=HLf.out.at 2 6 (v:=Z O aF) rfl rfl
    have r7:=HLf.out.at 2 7 (v:=Z O aG) rfl rfl
    have r8:=HLf.out.at 2 8 (v:=Z O aH) rfl rfl
    have r9:=HLf.out.at 2 9 (v:=Z O aI) rfl rfl
    have r10:=HLf.out.at 2 10 (v:=Z O aJ) rfl rfl
    have r11:=HLf.out.at 2 11 (v:=Z O aK) rfl rfl
    have r12:=HLf.out.at 2 12 (v:=Z O aL) rfl rfl
    refine bodyPost_ret (v:=.agg #[Zl va vn vc,Z O aA,Z O aB,Z O aC,Z O aD,Z O aE,Z O aF,Z O aG,Z O aH,Z O aI,Z O aJ,Z O aK,Z O aL]) (by simp [results,Try.results52,go_sem,r0,r1,r2,r3,r4,r5,r6,r7,r8,r9,r10,r11,r12]) rfl ?_
    have HRg:=row_same (w':=(w6.setCells ge 0 [Zl va vn vc,Z O aA,Z O aB,Z O aC,Z O aD,Z O aE,Z O aF,Z O aG,Z O aH,Z O aI,Z O aJ,Z O aK,Z O aL])) HOW.out (fun g' hg=>heap_setCells w6 ge (by have h1:=(HOW.out.lt g' hg).1;have h2:=HWS.out;omega) _ _)
    rw [HM6.out,HL6.out]at HRg
    refine⟨(aN.set k (⟨xc,⟨dl+dl2,dh+dh2⟩,⟨wl+wl2,wh+wh2⟩,max pil pil2,lastBoil boi boi2,both src src2⟩,Value.slice (some ⟨gi,0,none⟩) um icap)).eraseIdx o,Zl va vn vc,(⟨⟨aA,aB⟩,⟨aC,aD⟩,⟨aE,aF⟩,⟨aG,aH⟩,⟨aI,aJ⟩,⟨aK,aL⟩⟩:Yd.Acc),rfl,HLf.out.low,?_,?_⟩
    ·refine stands_erase HSTW.out HLf.out.low HP.out rfl (.inr ⟨⟨by simp [intCells],.inr ⟨gi,icap,icur,by rw [← HINT.out.1],Nat.zero_le _,by have h9:=HLf.out.blk 7 rfl;rw [Array.toArray_toList]at h9;exact h9,by rw [← HINT.out.1];exact HINT.out.2.1,HINT.out.2.2.1,HINT.out.2.2.2.1,by rw [← HINT.out.1];exact HINT.out.2.2.2.2⟩⟩,HBL.out⟩) ?_
     have h3:=owns_lowerS HRg (Nat.zero_le _)
     rw [← HL6.out,← HM6.out]at h3 ⊢
     exact h3
    ·rw [deed_merge (d:=(⟨6,day,code,aM,⟨al,ah⟩,⟨bl,bh⟩⟩:Deed Code)) (Value.slice (some ⟨gi,0,none⟩) um icap) (i:Int) rfl HAT.out HP.out HAO.out HP2.out]
     rfl
   by_cases hb:boi2<0
   ·skip
    have had:decide (boi<0)=false:=by simpa using ha
    have hbd:decide (boi2<0)=true:=by simpa using hb
    have HLB:=Zh (p:=lastBoil boi boi2 = -1) (by unfold lastBoil;rw [if_pos (.inr hb)])
    have q0:=HL80.out.at 5 6 (v:=Z O boi) rfl rfl
    have q1:=HL80.out.at 6 6 (v:=Z O boi2) rfl rfl
    have hf9:=HL80.out.frozen 5 rfl 6
    go_upto_region 34 with fail
    clear q0 q1 hf9
    have HL81:=Zh (p:=Locs w (wc1.setCell ⟨gx,6,none⟩ (Z O (-1))) [(gs,36,[Zl t1a n t1c,Z O aA,Z O aB,Z O aC,Z O aD,Z O aE,Z O aF,Z O aG,Z O aH,Z O aI,Z O aJ,Z O aK,Z O aL]),(gd,55,[Z O 6,Z O day,Zs code,Zs aM,Z O al,Z O ah,Z O bl,Z O bh]),(ge,36,[Zl none 0 0,Z O 0,Z O 0,Z O 0,Z O 0,Z O 0,Z O 0,Z O 0,Z O 0,Z O 0,Z O 0,Z O 0,Z O 0]),(g,49,flat rowCells aN++aO),(ga,34,[Z O aA,Z O aB,Z O aC,Z O aD,Z O aE,Z O aF,Z O aG,Z O aH,Z O aI,Z O aJ,Z O aK,Z O aL]),(gx,49,[Zs xc,Z O (dl+dl2),Z O (dh+dh2),Z O (wl+wl2),Z O (wh+wh2),Z O (max pil pil2),Z O (lastBoil boi boi2),Zl (some ⟨gi,0,none⟩) um icap]),(gm,49,[Zs yc,Z O dl2,Z O dh2,Z O wl2,Z O wh2,Z O pil2,Z O boi2,Zl fa2 fn2 fc2]),(gi,3,icur.toList)] []) (by rw [HLB.out];exact HL80.out.setLoc1 5 [Zs xc,Z O (dl+dl2),Z O (dh+dh2),Z O (wl+wl2),Z O (wh+wh2),Z O (max pil pil2)] [Zl (some ⟨gi,0,none⟩) um icap] (Z O boi) (Z O (-1)) 6 rfl rfl)
    clear HL80
    generalize World.setCell _ _ _=v90 at HL81 ⊢
    try simp only [Act.put]
    have s0:=HL81.out.at 5 0 (v:=Zs xc) rfl rfl
    have s1:=HL81.out.at 5 1 (v:=Z O (dl+dl2)) rfl rfl
    have s2:=HL81.out.at 5 2 (v:=Z O (dh+dh2)) rfl rfl
    have s3:=HL81.out.at 5 3 (v:=Z O (wl+wl2)) rfl rfl
    have s4:=HL81.out.at 5 4 (v:=Z O (wh+wh2)) rfl rfl
    have s5:=HL81.out.at 5 5 (v:=Z O (max pil pil2)) rfl rfl
    have s6:=HL81.out.at 5 6 (v:=Z O (lastBoil boi boi2)) rfl rfl
    have s7:=HL81.out.at 5 7 (v:=Zl (some ⟨gi,0,none⟩) um icap) rfl rfl
    have s8:=HL81.out.at 1 0 (v:=Z O 6) rfl rfl
    have HLr:=Zh (p:=Locs w (v90.setCells g (k*8) [Zs xc,Z O (dl+dl2),Z O (dh+dh2),Z O (wl+wl2),Z O (wh+wh2),Z O (max pil pil2),Z O (lastBoil boi boi2),Zl (some ⟨gi,0,none⟩) um icap]) [(gs,36,[Zl t1a n t1c,Z O aA,Z O aB,Z O aC,Z O aD,Z O aE,Z O aF,Z O aG,Z O aH,Z O aI,Z O aJ,Z O aK,Z O aL]),(gd,55,[Z O 6,Z O day,Zs code,Zs aM,Z O al,Z O ah,Z O bl,Z O bh]),(ge,36,[Zl none 0 0,Z O 0,Z O 0,Z O 0,Z O 0,Z O 0,Z O 0,Z O 0,Z O 0,Z O 0,Z O 0,Z O 0,Z O 0]),(g,49,flat rowCells (aN.set k (⟨xc,⟨dl+dl2,dh+dh2⟩,⟨wl+wl2,wh+wh2⟩,max pil pil2,lastBoil boi boi2,both src src2⟩,Value.slice (some ⟨gi,0,none⟩) um icap))++aO),(ga,34,[Z O aA,Z O aB,Z O aC,Z O aD,Z O aE,Z O aF,Z O aG,Z O aH,Z O aI,Z O aJ,Z O aK,Z O aL]),(gx,49,[Zs xc,Z O (dl+dl2),Z O (dh+dh2),Z O (wl+wl2),Z O (wh+wh2),Z O (max pil pil2),Z O (lastBoil boi boi2),Zl (some ⟨gi,0,none⟩) um icap]),(gm,49,[Zs yc,Z O dl2,Z O dh2,Z O wl2,Z O wh2,Z O pil2,Z O boi2,Zl fa2 fn2 fc2]),(gi,3,icur.toList)] []) (HL81.out.setRowS 3 rfl HKL.out (⟨xc,⟨dl+dl2,dh+dh2⟩,⟨wl+wl2,wh+wh2⟩,max pil pil2,lastBoil boi boi2,both src src2⟩,Value.slice (some ⟨gi,0,none⟩) um icap))
    have HTHR:=Zh (p:=v90.there g (k*8) 8) (HL81.out.there 3 rfl (by have h1:=HKL.out;rw [List.length_append,flat_length row_eight];omega))
    go_upto_region 36 with((with_reducible refine at_store 49 (.tmp 255) (.tmp 254) ?_);go_must (refine Zw rfl 49 (.tmp 255) (.tmp 254) rfl g (k*8) _ rfl rfl HTHR.out size_stack (by simp [Value.oneCell']) ?_);have HLs:=HLr;clear s0 s1 s2 s3 s4 s5 s6 s7 s8;have td:=HLs.out.at 1 0 (v:=Z O 6) rfl rfl)
    clear td HLs HTHR HL81
    obtain⟨l6,hL6⟩:∃ l6,l6=aN.set k (⟨xc,⟨dl+dl2,dh+dh2⟩,⟨wl+wl2,wh+wh2⟩,max pil pil2,lastBoil boi boi2,both src src2⟩,Value.slice (some ⟨gi,0,none⟩) um icap):=⟨_,rfl⟩
    rw [← hL6]at HLr
    have HL6:=Zh hL6
    have HLEN:=Zh (p:=l6.length=n) (by rw [hL6,List.length_set,← HN.out])
    have HSL6:=Zh (show ∀ p ∈ l6,∃ a n c,p.2=Zl a n c from fun p hp=>by
     rw [hL6]at hp
     rcases List.mem_or_eq_of_mem_set hp with h1 | rfl
     ·exact HFS.out p h1
     ·exact⟨_,_,_,rfl⟩)
    clear hL6
    have HL82:=HLr
    clear HLr
    generalize World.setCells _ _ _ _=wr at HL82 ⊢
    have HRW:=Zh (show wr.ownsRow w.heap.size 49 8 (Zl (some ⟨g,0,none⟩) n cap) l6.length (rowsCells l6)from by
     have h1:=(rowed_ofS (L:=[(gs,36,[Zl t1a n t1c,Z O aA,Z O aB,Z O aC,Z O aD,Z O aE,Z O aF,Z O aG,Z O aH,Z O aI,Z O aJ,Z O aK,Z O aL]),(gd,55,[Z O 6,Z O day,Zs code,Zs aM,Z O al,Z O ah,Z O bl,Z O bh]),(ge,36,[Zl none 0 0,Z O 0,Z O 0,Z O 0,Z O 0,Z O 0,Z O 0,Z O 0,Z O 0,Z O 0,Z O 0,Z O 0,Z O 0])]) (HL82.out.fewer (List.sublist_append_left ([(gs,36,[Zl t1a n t1c,Z O aA,Z O aB,Z O aC,Z O aD,Z O aE,Z O aF,Z O aG,Z O aH,Z O aI,Z O aJ,Z O aK,Z O aL]),(gd,55,[Z O 6,Z O day,Zs code,Zs aM,Z O al,Z O ah,Z O bl,Z O bh]),(ge,36,[Zl none 0 0,Z O 0,Z O 0,Z O 0,Z O 0,Z O 0,Z O 0,Z O 0,Z O 0,Z O 0,Z O 0,Z O 0,Z O 0]),(g,49,flat rowCells l6++aO)]:List (Nat × TypeId × List Value)) _) (List.Sublist.refl _)) HLEN.out HCAP.out).own
     rw [flat_rows]at h1
     rw [HLEN.out]
     exact h1)
    have HWO:=Zh (rwithout_calls (Zl (some ⟨g,0,none⟩) n cap) l6 o wr HRW.out (by rw [HLEN.out];exact hon) (by rw [HLEN.out];omega) HSL6.out)
    have s0:=HL82.out.at 1 0 (v:=Z O 6) rfl rfl
    go_wp2_with (first
     | (go_at_call 73;refine HWO.out.mono ?_;rintro e w6 ⟨v6,m6,rfl,hb6,hm6,how6⟩;obtain⟨va,vn,vc,rfl⟩:=row_slice how6;obtain rfl:vn=m6:=row_len how6;have HOW:=Zh how6;have HM6:=Zh hm6;have HL60:=Zh (HL82.out.below hb6);have HWS:=Zh (HL82.out.far 2 rfl).2;clear how6 hm6 hb6 s0;have t0:=HL60.out.at 4 0 (v:=Z O aA) rfl rfl;have t1:=HL60.out.at 4 1 (v:=Z O aB) rfl rfl;have t2:=HL60.out.at 4 2 (v:=Z O aC) rfl rfl;have t3:=HL60.out.at 4 3 (v:=Z O aD) rfl rfl;have t4:=HL60.out.at 4 4 (v:=Z O aE) rfl rfl;have t5:=HL60.out.at 4 5 (v:=Z O aF) rfl rfl;have t6:=HL60.out.at 4 6 (v:=Z O aG) rfl rfl;have t7:=HL60.out.at 4 7 (v:=Z O aH) rfl rfl;have t8:=HL60.out.at 4 8 (v:=Z O aI) rfl rfl;have t9:=HL60.out.at 4 9 (v:=Z O aJ) rfl rfl;have t10:=HL60.out.at 4 10 (v:=Z O aK) rfl rfl;have t11:=HL60.out.at 4 11 (v:=Z O aL) rfl rfl;have td:=HL60.out.at 1 0 (v:=Z O 6) rfl rfl)
     | ((with_reducible refine at_store 36 (.tmp 6) (.tmp 270) ?_);go_must (refine Zw rfl 36 (.tmp 6) (.tmp 270) rfl ge 0 _ rfl rfl (HL60.out.there 2 (o:=0) (n:=13) rfl (Zn rfl)) size_standing (by simp [Value.oneCell']) ?_)))
    clear t0 t1 t2 t3 t4 t5 t6 t7 t8 t9 t10 t11 td
    have HLf:=Zh (p:=Locs w (w6.setCells ge 0 [Zl va vn vc,Z O aA,Z O aB,Z O aC,Z O aD,Z O aE,Z O aF,Z O aG,Z O aH,Z O aI,Z O aJ,Z O aK,Z O aL]) [(gs,36,[Zl t1a n t1c,Z O aA,Z O aB,Z O aC,Z O aD,Z O aE,Z O aF,Z O aG,Z O aH,Z O aI,Z O aJ,Z O aK,Z O aL]),(gd,55,[Z O 6,Z O day,Zs code,Zs aM,Z O al,Z O ah,Z O bl,Z O bh]),(ge,36,[Zl va vn vc,Z O aA,Z O aB,Z O aC,Z O aD,Z O aE,Z O aF,Z O aG,Z O aH,Z O aI,Z O aJ,Z O aK,Z O aL]),(g,49,flat rowCells l6++aO),(ga,34,[Z O aA,Z O aB,Z O aC,Z O aD,Z O aE,Z O aF,Z O aG,Z O aH,Z O aI,Z O aJ,Z O aK,Z O aL]),(gx,49,[Zs xc,Z O (dl+dl2),Z O (dh+dh2),Z O (wl+wl2),Z O (wh+wh2),Z O (max pil pil2),Z O (lastBoil boi boi2),Zl (some ⟨gi,0,none⟩) um icap]),(gm,49,[Zs yc,Z O dl2,Z O dh2,Z O wl2,Z O wh2,Z O pil2,Z O boi2,Zl fa2 fn2 fc2]),(gi,3,icur.toList)] []) (HL60.out.put 2 0 _ rfl)
    have r0:=HLf.out.at 2 0 (v:=Zl va vn vc) rfl rfl
    have r1:=HLf.out.at 2 1 (v:=Z O aA) rfl rfl
    have r2:=HLf.out.at 2 2 (v:=Z O aB) rfl rfl
    have r3:=HLf.out.at 2 3 (v:=Z O aC) rfl rfl
    have r4:=HLf.out.at 2 4 (v:=Z O aD) rfl rfl
    have r5:=HLf.out.at 2 5 (v:=Z O aE) rfl rfl
    have r6:=HLf.out.at 2 6 (v:=Z O aF) rfl rfl
    have r7:=HLf.out.at 2 7 (v:=Z O aG) rfl rfl
    have r8:=HLf.out.at 2 8 (v:=Z O aH) rfl rfl
    have r9:=HLf.out.at 2 9 (v:=Z O aI) rfl rfl
    have r10:=HLf.out.at 2 10 (v:=Z O aJ) rfl rfl
    have r11:=HLf.out.at 2 11 (v:=Z O aK) rfl rfl
    have r12:=HLf.out.at 2 12 (v:=Z O aL) rfl rfl
    refine bodyPost_ret (v:=.agg #[Zl va vn vc,Z O aA,Z O aB,Z O aC,Z O aD,Z O aE,Z O aF,Z O aG,Z O aH,Z O aI,Z O aJ,Z O aK,Z O aL]) (by simp [results,Try.results52,go_sem,r0,r1,r2,r3,r4,r5,r6,r7,r8,r9,r10,r11,r12]) rfl ?_
    have HRg:=row_same (w':=(w6.setCells ge 0 [Zl va vn vc,Z O aA,Z O aB,Z O aC,Z O aD,Z O aE,Z O aF,Z O aG,Z O aH,Z O aI,Z O aJ,Z O aK,Z O aL])) HOW.out (fun g' hg=>heap_setCells w6 ge (by have h1:=(HOW.out.lt g' hg).1;have h2:=HWS.out;omega) _ _)
    rw [HM6.out,HL6.out]at HRg
    refine⟨(aN.set k (⟨xc,⟨dl+dl2,dh+dh2⟩,⟨wl+wl2,wh+wh2⟩,max pil pil2,lastBoil boi boi2,both src src2⟩,Value.slice (some ⟨gi,0,none⟩) um icap)).eraseIdx o,Zl va vn vc,(⟨⟨aA,aB⟩,⟨aC,aD⟩,⟨aE,aF⟩,⟨aG,aH⟩,⟨aI,aJ⟩,⟨aK,aL⟩⟩:Yd.Acc),rfl,HLf.out.low,?_,?_⟩
    ·refine stands_erase HSTW.out HLf.out.low HP.out rfl (.inr ⟨⟨by simp [intCells],.inr ⟨gi,icap,icur,by rw [← HINT.out.1],Nat.zero_le _,by have h9:=HLf.out.blk 7 rfl;rw [Array.toArray_toList]at h9;exact h9,by rw [← HINT.out.1];exact HINT.out.2.1,HINT.out.2.2.1,HINT.out.2.2.2.1,by rw [← HINT.out.1];exact HINT.out.2.2.2.2⟩⟩,HBL.out⟩) ?_
     have h3:=owns_lowerS HRg (Nat.zero_le _)
     rw [← HL6.out,← HM6.out]at h3 ⊢
     exact h3
    ·rw [deed_merge (d:=(⟨6,day,code,aM,⟨al,ah⟩,⟨bl,bh⟩⟩:Deed Code)) (Value.slice (some ⟨gi,0,none⟩) um icap) (i:Int) rfl HAT.out HP.out HAO.out HP2.out]
     rfl
   by_cases hc:boi<boi2
   ·skip
    have had:decide (boi<0)=false:=by simpa using ha
    have hbd:decide (boi2<0)=false:=by simpa using hb
    have HLB:=Zh (p:=lastBoil boi boi2=boi2) (by unfold lastBoil;rw [if_neg (by omega)];omega)
    have q0:=HL80.out.at 5 6 (v:=Z O boi) rfl rfl
    have q1:=HL80.out.at 6 6 (v:=Z O boi2) rfl rfl
    have hf9:=HL80.out.frozen 5 rfl 6
    go_upto_region 34 with fail
    clear q0 q1 hf9
    have HL81:=Zh (p:=Locs w (wc1.setCell ⟨gx,6,none⟩ (Z O (boi2))) [(gs,36,[Zl t1a n t1c,Z O aA,Z O aB,Z O aC,Z O aD,Z O aE,Z O aF,Z O aG,Z O aH,Z O aI,Z O aJ,Z O aK,Z O aL]),(gd,55,[Z O 6,Z O day,Zs code,Zs aM,Z O al,Z O ah,Z O bl,Z O bh]),(ge,36,[Zl none 0 0,Z O 0,Z O 0,Z O 0,Z O 0,Z O 0,Z O 0,Z O 0,Z O 0,Z O 0,Z O 0,Z O 0,Z O 0]),(g,49,flat rowCells aN++aO),(ga,34,[Z O aA,Z O aB,Z O aC,Z O aD,Z O aE,Z O aF,Z O aG,Z O aH,Z O aI,Z O aJ,Z O aK,Z O aL]),(gx,49,[Zs xc,Z O (dl+dl2),Z O (dh+dh2),Z O (wl+wl2),Z O (wh+wh2),Z O (max pil pil2),Z O (lastBoil boi boi2),Zl (some ⟨gi,0,none⟩) um icap]),(gm,49,[Zs yc,Z O dl2,Z O dh2,Z O wl2,Z O wh2,Z O pil2,Z O boi2,Zl fa2 fn2 fc2]),(gi,3,icur.toList)] []) (by rw [HLB.out];exact HL80.out.setLoc1 5 [Zs xc,Z O (dl+dl2),Z O (dh+dh2),Z O (wl+wl2),Z O (wh+wh2),Z O (max pil pil2)] [Zl (some ⟨gi,0,none⟩) um icap] (Z O boi) (Z O (boi2)) 6 rfl rfl)
    clear HL80
    generalize World.setCell _ _ _=v90 at HL81 ⊢
    try simp only [Act.put]
    have s0:=HL81.out.at 5 0 (v:=Zs xc) rfl rfl
    have s1:=HL81.out.at 5 1 (v:=Z O (dl+dl2)) rfl rfl
    have s2:=HL81.out.at 5 2 (v:=Z O (dh+dh2)) rfl rfl
    have s3:=HL81.out.at 5 3 (v:=Z O (wl+wl2)) rfl rfl
    have s4:=HL81.out.at 5 4 (v:=Z O (wh+wh2)) rfl rfl
    have s5:=HL81.out.at 5 5 (v:=Z O (max pil pil2)) rfl rfl
    have s6:=HL81.out.at 5 6 (v:=Z O (lastBoil boi boi2)) rfl rfl
    have s7:=HL81.out.at 5 7 (v:=Zl (some ⟨gi,0,none⟩) um icap) rfl rfl
    have s8:=HL81.out.at 1 0 (v:=Z O 6) rfl rfl
    have HLr:=Zh (p:=Locs w (v90.setCells g (k*8) [Zs xc,Z O (dl+dl2),Z O (dh+dh2),Z O (wl+wl2),Z O (wh+wh2),Z O (max pil pil2),Z O (lastBoil boi boi2),Zl (some ⟨gi,0,none⟩) um icap]) [(gs,36,[Zl t1a n t1c,Z O aA,Z O aB,Z O aC,Z O aD,Z O aE,Z O aF,Z O aG,Z O aH,Z O aI,Z O aJ,Z O aK,Z O aL]),(gd,55,[Z O 6,Z O day,Zs code,Zs aM,Z O al,Z O ah,Z O bl,Z O bh]),(ge,36,[Zl none 0 0,Z O 0,Z O 0,Z O 0,Z O 0,Z O 0,Z O 0,Z O 0,Z O 0,Z O 0,Z O 0,Z O 0,Z O 0]),(g,49,flat rowCells (aN.set k (⟨xc,⟨dl+dl2,dh+dh2⟩,⟨wl+wl2,wh+wh2⟩,max pil pil2,lastBoil boi boi2,both src src2⟩,Value.slice (some ⟨gi,0,none⟩) um icap))++aO),(ga,34,[Z O aA,Z O aB,Z O aC,Z O aD,Z O aE,Z O aF,Z O aG,Z O aH,Z O aI,Z O aJ,Z O aK,Z O aL]),(gx,49,[Zs xc,Z O (dl+dl2),Z O (dh+dh2),Z O (wl+wl2),Z O (wh+wh2),Z O (max pil pil2),Z O (lastBoil boi boi2),Zl (some ⟨gi,0,none⟩) um icap]),(gm,49,[Zs yc,Z O dl2,Z O dh2,Z O wl2,Z O wh2,Z O pil2,Z O boi2,Zl fa2 fn2 fc2]),(gi,3,icur.toList)] []) (HL81.out.setRowS 3 rfl HKL.out (⟨xc,⟨dl+dl2,dh+dh2⟩,⟨wl+wl2,wh+wh2⟩,max pil pil2,lastBoil boi boi2,both src src2⟩,Value.slice (some ⟨gi,0,none⟩) um icap))
    have HTHR:=Zh (p:=v90.there g (k*8) 8) (HL81.out.there 3 rfl (by have h1:=HKL.out;rw [List.length_append,flat_length row_eight];omega))
    go_upto_region 36 with((with_reducible refine at_store 49 (.tmp 255) (.tmp 254) ?_);go_must (refine Zw rfl 49 (.tmp 255) (.tmp 254) rfl g (k*8) _ rfl rfl HTHR.out size_stack (by simp [Value.oneCell']) ?_);have HLs:=HLr;clear s0 s1 s2 s3 s4 s5 s6 s7 s8;have td:=HLs.out.at 1 0 (v:=Z O 6) rfl rfl)
    clear td HLs HTHR HL81
    obtain⟨l6,hL6⟩:∃ l6,l6=aN.set k (⟨xc,⟨dl+dl2,dh+dh2⟩,⟨wl+wl2,wh+wh2⟩,max pil pil2,lastBoil boi boi2,both src src2⟩,Value.slice (some ⟨gi,0,none⟩) um icap):=⟨_,rfl⟩
    rw [← hL6]at HLr
    have HL6:=Zh hL6
    have HLEN:=Zh (p:=l6.length=n) (by rw [hL6,List.length_set,← HN.out])
    have HSL6:=Zh (show ∀ p ∈ l6,∃ a n c,p.2=Zl a n c from fun p hp=>by
     rw [hL6]at hp
     rcases List.mem_or_eq_of_mem_set hp with h1 | rfl
     ·exact HFS.out p h1
     ·exact⟨_,_,_,rfl⟩)
    clear hL6
    have HL82:=HLr
    clear HLr
    generalize World.setCells _ _ _ _=wr at HL82 ⊢
    have HRW:=Zh (show wr.ownsRow w.heap.size 49 8 (Zl (some ⟨g,0,none⟩) n cap) l6.length (rowsCells l6)from by
     have h1:=(rowed_ofS (L:=[(gs,36,[Zl t1a n t1c,Z O aA,Z O aB,Z O aC,Z O aD,Z O aE,Z O aF,Z O aG,Z O aH,Z O aI,Z O aJ,Z O aK,Z O aL]),(gd,55,[Z O 6,Z O day,Zs code,Zs aM,Z O al,Z O ah,Z O bl,Z O bh]),(ge,36,[Zl none 0 0,Z O 0,Z O 0,Z O 0,Z O 0,Z O 0,Z O 0,Z O 0,Z O 0,Z O 0,Z O 0,Z O 0,Z O 0])]) (HL82.out.fewer (List.sublist_append_left ([(gs,36,[Zl t1a n t1c,Z O aA,Z O aB,Z O aC,Z O aD,Z O aE,Z O aF,Z O aG,Z O aH,Z O aI,Z O aJ,Z O aK,Z O aL]),(gd,55,[Z O 6,Z O day,Zs code,Zs aM,Z O al,Z O ah,Z O bl,Z O bh]),(ge,36,[Zl none 0 0,Z O 0,Z O 0,Z O 0,Z O 0,Z O 0,Z O 0,Z O 0,Z O 0,Z O 0,Z O 0,Z O 0,Z O 0]),(g,49,flat rowCells l6++aO)]:List (Nat × TypeId × List Value)) _) (List.Sublist.refl _)) HLEN.out HCAP.out).own
     rw [flat_rows]at h1
     rw [HLEN.out]
     exact h1)
    have HWO:=Zh (rwithout_calls (Zl (some ⟨g,0,none⟩) n cap) l6 o wr HRW.out (by rw [HLEN.out];exact hon) (by rw [HLEN.out];omega) HSL6.out)
    have s0:=HL82.out.at 1 0 (v:=Z O 6) rfl rfl
    go_wp2_with (first
     | (go_at_call 73;refine HWO.out.mono ?_;rintro e w6 ⟨v6,m6,rfl,hb6,hm6,how6⟩;obtain⟨va,vn,vc,rfl⟩:=row_slice how6;obtain rfl:vn=m6:=row_len how6;have HOW:=Zh how6;have HM6:=Zh hm6;have HL60:=Zh (HL82.out.below hb6);have HWS:=Zh (HL82.out.far 2 rfl).2;clear how6 hm6 hb6 s0;have t0:=HL60.out.at 4 0 (v:=Z O aA) rfl rfl;have t1:=HL60.out.at 4 1 (v:=Z O aB) rfl rfl;have t2:=HL60.out.at 4 2 (v:=Z O aC) rfl rfl;have t3:=HL60.out.at 4 3 (v:=Z O aD) rfl rfl;have t4:=HL60.out.at 4 4 (v:=Z O aE) rfl rfl;have t5:=HL60.out.at 4 5 (v:=Z O aF) rfl rfl;have t6:=HL60.out.at 4 6 (v:=Z O aG) rfl rfl;have t7:=HL60.out.at 4 7 (v:=Z O aH) rfl rfl;have t8:=HL60.out.at 4 8 (v:=Z O aI) rfl rfl;have t9:=HL60.out.at 4 9 (v:=Z O aJ) rfl rfl;have t10:=HL60.out.at 4 10 (v:=Z O aK) rfl rfl;have t11:=HL60.out.at 4 11 (v:=Z O aL) rfl rfl;have td:=HL60.out.at 1 0 (v:=Z O 6) rfl rfl)
     | ((with_reducible refine at_store 36 (.tmp 6) (.tmp 270) ?_);go_must (refine Zw rfl 36 (.tmp 6) (.tmp 270) rfl ge 0 _ rfl rfl (HL60.out.there 2 (o:=0) (n:=13) rfl (Zn rfl)) size_standing (by simp [Value.oneCell']) ?_)))
    clear t0 t1 t2 t3 t4 t5 t6 t7 t8 t9 t10 t11 td
    have HLf:=Zh (p:=Locs w (w6.setCells ge 0 [Zl va vn vc,Z O aA,Z O aB,Z O aC,Z O aD,Z O aE,Z O aF,Z O aG,Z O aH,Z O aI,Z O aJ,Z O aK,Z O aL]) [(gs,36,[Zl t1a n t1c,Z O aA,Z O aB,Z O aC,Z O aD,Z O aE,Z O aF,Z O aG,Z O aH,Z O aI,Z O aJ,Z O aK,Z O aL]),(gd,55,[Z O 6,Z O day,Zs code,Zs aM,Z O al,Z O ah,Z O bl,Z O bh]),(ge,36,[Zl va vn vc,Z O aA,Z O aB,Z O aC,Z O aD,Z O aE,Z O aF,Z O aG,Z O aH,Z O aI,Z O aJ,Z O aK,Z O aL]),(g,49,flat rowCells l6++aO),(ga,34,[Z O aA,Z O aB,Z O aC,Z O aD,Z O aE,Z O aF,Z O aG,Z O aH,Z O aI,Z O aJ,Z O aK,Z O aL]),(gx,49,[Zs xc,Z O (dl+dl2),Z O (dh+dh2),Z O (wl+wl2),Z O (wh+wh2),Z O (max pil pil2),Z O (lastBoil boi boi2),Zl (some ⟨gi,0,none⟩) um icap]),(gm,49,[Zs yc,Z O dl2,Z O dh2,Z O wl2,Z O wh2,Z O pil2,Z O boi2,Zl fa2 fn2 fc2]),(gi,3,icur.toList)] []) (HL60.out.put 2 0 _ rfl)
    have r0:=HLf.out.at 2 0 (v:=Zl va vn vc) rfl rfl
    have r1:=HLf.out.at 2 1 (v:=Z O aA) rfl rfl
    have r2:=HLf.out.at 2 2 (v:=Z O aB) rfl rfl
    have r3:=HLf.out.at 2 3 (v:=Z O aC) rfl rfl
    have r4:=HLf.out.at 2 4 (v:=Z O aD) rfl rfl
    have r5:=HLf.out.at 2 5 (v:=Z O aE) rfl rfl
    have r6:=HLf.out.at 2 6 (v:=Z O aF) rfl rfl
    have r7:=HLf.out.at 2 7 (v:=Z O aG) rfl rfl
    have r8:=HLf.out.at 2 8 (v:=Z O aH) rfl rfl
    have r9:=HLf.out.at 2 9 (v:=Z O aI) rfl rfl
    have r10:=HLf.out.at 2 10 (v:=Z O aJ) rfl rfl
    have r11:=HLf.out.at 2 11 (v:=Z O aK) rfl rfl
    have r12:=HLf.out.at 2 12 (v:=Z O aL) rfl rfl
    refine bodyPost_ret (v:=.agg #[Zl va vn vc,Z O aA,Z O aB,Z O aC,Z O aD,Z O aE,Z O aF,Z O aG,Z O aH,Z O aI,Z O aJ,Z O aK,Z O aL]) (by simp [results,Try.results52,go_sem,r0,r1,r2,r3,r4,r5,r6,r7,r8,r9,r10,r11,r12]) rfl ?_
    have HRg:=row_same (w':=(w6.setCells ge 0 [Zl va vn vc,Z O aA,Z O aB,Z O aC,Z O aD,Z O aE,Z O aF,Z O aG,Z O aH,Z O aI,Z O aJ,Z O aK,Z O aL])) HOW.out (fun g' hg=>heap_setCells w6 ge (by have h1:=(HOW.out.lt g' hg).1;have h2:=HWS.out;omega) _ _)
    rw [HM6.out,HL6.out]at HRg
    refine⟨(aN.set k (⟨xc,⟨dl+dl2,dh+dh2⟩,⟨wl+wl2,wh+wh2⟩,max pil pil2,lastBoil boi boi2,both src src2⟩,Value.slice (some ⟨gi,0,none⟩) um icap)).eraseIdx o,Zl va vn vc,(⟨⟨aA,aB⟩,⟨aC,aD⟩,⟨aE,aF⟩,⟨aG,aH⟩,⟨aI,aJ⟩,⟨aK,aL⟩⟩:Yd.Acc),rfl,HLf.out.low,?_,?_⟩
    ·refine stands_erase HSTW.out HLf.out.low HP.out rfl (.inr ⟨⟨by simp [intCells],.inr ⟨gi,icap,icur,by rw [← HINT.out.1],Nat.zero_le _,by have h9:=HLf.out.blk 7 rfl;rw [Array.toArray_toList]at h9;exact h9,by rw [← HINT.out.1];exact HINT.out.2.1,HINT.out.2.2.1,HINT.out.2.2.2.1,by rw [← HINT.out.1];exact HINT.out.2.2.2.2⟩⟩,HBL.out⟩) ?_
     have h3:=owns_lowerS HRg (Nat.zero_le _)
     rw [← HL6.out,← HM6.out]at h3 ⊢
     exact h3
    ·rw [deed_merge (d:=(⟨6,day,code,aM,⟨al,ah⟩,⟨bl,bh⟩⟩:Deed Code)) (Value.slice (some ⟨gi,0,none⟩) um icap) (i:Int) rfl HAT.out HP.out HAO.out HP2.out]
     rfl
   ·skip
    have had:decide (boi<0)=false:=by simpa using ha
    have hbd:decide (boi2<0)=false:=by simpa using hb
    have hc':boi2≤boi:=by omega
    have HLB:=Zh (p:=lastBoil boi boi2=boi) (by unfold lastBoil;rw [if_neg (by omega)];omega)
    have q0:=HL80.out.at 5 6 (v:=Z O boi) rfl rfl
    have q1:=HL80.out.at 6 6 (v:=Z O boi2) rfl rfl
    have hf9:=HL80.out.frozen 5 rfl 6
    go_upto_region 34 with fail
    clear q0 q1 hf9
    have HL81:=Zh (p:=Locs w (wc1.setCell ⟨gx,6,none⟩ (Z O (boi))) [(gs,36,[Zl t1a n t1c,Z O aA,Z O aB,Z O aC,Z O aD,Z O aE,Z O aF,Z O aG,Z O aH,Z O aI,Z O aJ,Z O aK,Z O aL]),(gd,55,[Z O 6,Z O day,Zs code,Zs aM,Z O al,Z O ah,Z O bl,Z O bh]),(ge,36,[Zl none 0 0,Z O 0,Z O 0,Z O 0,Z O 0,Z O 0,Z O 0,Z O 0,Z O 0,Z O 0,Z O 0,Z O 0,Z O 0]),(g,49,flat rowCells aN++aO),(ga,34,[Z O aA,Z O aB,Z O aC,Z O aD,Z O aE,Z O aF,Z O aG,Z O aH,Z O aI,Z O aJ,Z O aK,Z O aL]),(gx,49,[Zs xc,Z O (dl+dl2),Z O (dh+dh2),Z O (wl+wl2),Z O (wh+wh2),Z O (max pil pil2),Z O (lastBoil boi boi2),Zl (some ⟨gi,0,none⟩) um icap]),(gm,49,[Zs yc,Z O dl2,Z O dh2,Z O wl2,Z O wh2,Z O pil2,Z O boi2,Zl fa2 fn2 fc2]),(gi,3,icur.toList)] []) (by rw [HLB.out];exact HL80.out.setLoc1 5 [Zs xc,Z O (dl+dl2),Z O (dh+dh2),Z O (wl+wl2),Z O (wh+wh2),Z O (max pil pil2)] [Zl (some ⟨gi,0,none⟩) um icap] (Z O boi) (Z O (boi)) 6 rfl rfl)
    clear HL80
    generalize World.setCell _ _ _=v90 at HL81 ⊢
    try simp only [Act.put]
    have s0:=HL81.out.at 5 0 (v:=Zs xc) rfl rfl
    have s1:=HL81.out.at 5 1 (v:=Z O (dl+dl2)) rfl rfl
    have s2:=HL81.out.at 5 2 (v:=Z O (dh+dh2)) rfl rfl
    have s3:=HL81.out.at 5 3 (v:=Z O (wl+wl2)) rfl rfl
    have s4:=HL81.out.at 5 4 (v:=Z O (wh+wh2)) rfl rfl
    have s5:=HL81.out.at 5 5 (v:=Z O (max pil pil2)) rfl rfl
    have s6:=HL81.out.at 5 6 (v:=Z O (lastBoil boi boi2)) rfl rfl
    have s7:=HL81.out.at 5 7 (v:=Zl (some ⟨gi,0,none⟩) um icap) rfl rfl
    have s8:=HL81.out.at 1 0 (v:=Z O 6) rfl rfl
    have HLr:=Zh (p:=Locs w (v90.setCells g (k*8) [Zs xc,Z O (dl+dl2),Z O (dh+dh2),Z O (wl+wl2),Z O (wh+wh2),Z O (max pil pil2),Z O (lastBoil boi boi2),Zl (some ⟨gi,0,none⟩) um icap]) [(gs,36,[Zl t1a n t1c,Z O aA,Z O aB,Z O aC,Z O aD,Z O aE,Z O aF,Z O aG,Z O aH,Z O aI,Z O aJ,Z O aK,Z O aL]),(gd,55,[Z O 6,Z O day,Zs code,Zs aM,Z O al,Z O ah,Z O bl,Z O bh]),(ge,36,[Zl none 0 0,Z O 0,Z O 0,Z O 0,Z O 0,Z O 0,Z O 0,Z O 0,Z O 0,Z O 0,Z O 0,Z O 0,Z O 0]),(g,49,flat rowCells (aN.set k (⟨xc,⟨dl+dl2,dh+dh2⟩,⟨wl+wl2,wh+wh2⟩,max pil pil2,lastBoil boi boi2,both src src2⟩,Value.slice (some ⟨gi,0,none⟩) um icap))++aO),(ga,34,[Z O aA,Z O aB,Z O aC,Z O aD,Z O aE,Z O aF,Z O aG,Z O aH,Z O aI,Z O aJ,Z O aK,Z O aL]),(gx,49,[Zs xc,Z O (dl+dl2),Z O (dh+dh2),Z O (wl+wl2),Z O (wh+wh2),Z O (max pil pil2),Z O (lastBoil boi boi2),Zl (some ⟨gi,0,none⟩) um icap]),(gm,49,[Zs yc,Z O dl2,Z O dh2,Z O wl2,Z O wh2,Z O pil2,Z O boi2,Zl fa2 fn2 fc2]),(gi,3,icur.toList)] []) (HL81.out.setRowS 3 rfl HKL.out (⟨xc,⟨dl+dl2,dh+dh2⟩,⟨wl+wl2,wh+wh2⟩,max pil pil2,lastBoil boi boi2,both src src2⟩,Value.slice (some ⟨gi,0,none⟩) um icap))
    have HTHR:=Zh (p:=v90.there g (k*8) 8) (HL81.out.there 3 rfl (by have h1:=HKL.out;rw [List.length_append,flat_length row_eight];omega))
    go_upto_region 36 with((with_reducible refine at_store 49 (.tmp 255) (.tmp 254) ?_);go_must (refine Zw rfl 49 (.tmp 255) (.tmp 254) rfl g (k*8) _ rfl rfl HTHR.out size_stack (by simp [Value.oneCell']) ?_);have HLs:=HLr;clear s0 s1 s2 s3 s4 s5 s6 s7 s8;have td:=HLs.out.at 1 0 (v:=Z O 6) rfl rfl)
    clear td HLs HTHR HL81
    obtain⟨l6,hL6⟩:∃ l6,l6=aN.set k (⟨xc,⟨dl+dl2,dh+dh2⟩,⟨wl+wl2,wh+wh2⟩,max pil pil2,lastBoil boi boi2,both src src2⟩,Value.slice (some ⟨gi,0,none⟩) um icap):=⟨_,rfl⟩
    rw [← hL6]at HLr
    have HL6:=Zh hL6
    have HLEN:=Zh (p:=l6.length=n) (by rw [hL6,List.length_set,← HN.out])
    have HSL6:=Zh (show ∀ p ∈ l6,∃ a n c,p.2=Zl a n c from fun p hp=>by
     rw [hL6]at hp
     rcases List.mem_or_eq_of_mem_set hp with h1 | rfl
     ·exact HFS.out p h1
     ·exact⟨_,_,_,rfl⟩)
    clear hL6
    have HL82:=HLr
    clear HLr
    generalize World.setCells _ _ _ _=wr at HL82 ⊢
    have HRW:=Zh (show wr.ownsRow w.heap.size 49 8 (Zl (some ⟨g,0,none⟩) n cap) l6.length (rowsCells l6)from by
     have h1:=(rowed_ofS (L:=[(gs,36,[Zl t1a n t1c,Z O aA,Z O aB,Z O aC,Z O aD,Z O aE,Z O aF,Z O aG,Z O aH,Z O aI,Z O aJ,Z O aK,Z O aL]),(gd,55,[Z O 6,Z O day,Zs code,Zs aM,Z O al,Z O ah,Z O bl,Z O bh]),(ge,36,[Zl none 0 0,Z O 0,Z O 0,Z O 0,Z O 0,Z O 0,Z O 0,Z O 0,Z O 0,Z O 0,Z O 0,Z O 0,Z O 0])]) (HL82.out.fewer (List.sublist_append_left ([(gs,36,[Zl t1a n t1c,Z O aA,Z O aB,Z O aC,Z O aD,Z O aE,Z O aF,Z O aG,Z O aH,Z O aI,Z O aJ,Z O aK,Z O aL]),(gd,55,[Z O 6,Z O day,Zs code,Zs aM,Z O al,Z O ah,Z O bl,Z O bh]),(ge,36,[Zl none 0 0,Z O 0,Z O 0,Z O 0,Z O 0,Z O 0,Z O 0,Z O 0,Z O 0,Z O 0,Z O 0,Z O 0,Z O 0]),(g,49,flat rowCells l6++aO)]:List (Nat × TypeId × List Value)) _) (List.Sublist.refl _)) HLEN.out HCAP.out).own
     rw [flat_rows]at h1
     rw [HLEN.out]
     exact h1)
    have HWO:=Zh (rwithout_calls (Zl (some ⟨g,0,none⟩) n cap) l6 o wr HRW.out (by rw [HLEN.out];exact hon) (by rw [HLEN.out];omega) HSL6.out)
    have s0:=HL82.out.at 1 0 (v:=Z O 6) rfl rfl
    go_wp2_with (first
     | (go_at_call 73;refine HWO.out.mono ?_;rintro e w6 ⟨v6,m6,rfl,hb6,hm6,how6⟩;obtain⟨va,vn,vc,rfl⟩:=row_slice how6;obtain rfl:vn=m6:=row_len how6;have HOW:=Zh how6;have HM6:=Zh hm6;have HL60:=Zh (HL82.out.below hb6);have HWS:=Zh (HL82.out.far 2 rfl).2;clear how6 hm6 hb6 s0;have t0:=HL60.out.at 4 0 (v:=Z O aA) rfl rfl;have t1:=HL60.out.at 4 1 (v:=Z O aB) rfl rfl;have t2:=HL60.out.at 4 2 (v:=Z O aC) rfl rfl;have t3:=HL60.out.at 4 3 (v:=Z O aD) rfl rfl;have t4:=HL60.out.at 4 4 (v:=Z O aE) rfl rfl;have t5:=HL60.out.at 4 5 (v:=Z O aF) rfl rfl;have t6:=HL60.out.at 4 6 (v:=Z O aG) rfl rfl;have t7:=HL60.out.at 4 7 (v:=Z O aH) rfl rfl;have t8:=HL60.out.at 4 8 (v:=Z O aI) rfl rfl;have t9:=HL60.out.at 4 9 (v:=Z O aJ) rfl rfl;have t10:=HL60.out.at 4 10 (v:=Z O aK) rfl rfl;have t11:=HL60.out.at 4 11 (v:=Z O aL) rfl rfl;have td:=HL60.out.at 1 0 (v:=Z O 6) rfl rfl)
     | ((with_reducible refine at_store 36 (.tmp 6) (.tmp 270) ?_);go_must (refine Zw rfl 36 (.tmp 6) (.tmp 270) rfl ge 0 _ rfl rfl (HL60.out.there 2 (o:=0) (n:=13) rfl (Zn rfl)) size_standing (by simp [Value.oneCell']) ?_)))
    clear t0 t1 t2 t3 t4 t5 t6 t7 t8 t9 t10 t11 td
    have HLf:=Zh (p:=Locs w (w6.setCells ge 0 [Zl va vn vc,Z O aA,Z O aB,Z O aC,Z O aD,Z O aE,Z O aF,Z O aG,Z O aH,Z O aI,Z O aJ,Z O aK,Z O aL]) [(gs,36,[Zl t1a n t1c,Z O aA,Z O aB,Z O aC,Z O aD,Z O aE,Z O aF,Z O aG,Z O aH,Z O aI,Z O aJ,Z O aK,Z O aL]),(gd,55,[Z O 6,Z O day,Zs code,Zs aM,Z O al,Z O ah,Z O bl,Z O bh]),(ge,36,[Zl va vn vc,Z O aA,Z O aB,Z O aC,Z O aD,Z O aE,Z O aF,Z O aG,Z O aH,Z O aI,Z O aJ,Z O aK,Z O aL]),(g,49,flat rowCells l6++aO),(ga,34,[Z O aA,Z O aB,Z O aC,Z O aD,Z O aE,Z O aF,Z O aG,Z O aH,Z O aI,Z O aJ,Z O aK,Z O aL]),(gx,49,[Zs xc,Z O (dl+dl2),Z O (dh+dh2),Z O (wl+wl2),Z O (wh+wh2),Z O (max pil pil2),Z O (lastBoil boi boi2),Zl (some ⟨gi,0,none⟩) um icap]),(gm,49,[Zs yc,Z O dl2,Z O dh2,Z O wl2,Z O wh2,Z O pil2,Z O boi2,Zl fa2 fn2 fc2]),(gi,3,icur.toList)] []) (HL60.out.put 2 0 _ rfl)
    have r0:=HLf.out.at 2 0 (v:=Zl va vn vc) rfl rfl
    have r1:=HLf.out.at 2 1 (v:=Z O aA) rfl rfl
    have r2:=HLf.out.at 2 2 (v:=Z O aB) rfl rfl
    have r3:=HLf.out.at 2 3 (v:=Z O aC) rfl rfl
    have r4:=HLf.out.at 2 4 (v:=Z O aD) rfl rfl
    have r5:=HLf.out.at 2 5 (v:=Z O aE) rfl rfl
    have r6:=HLf.out.at 2 6 (v:=Z O aF) rfl rfl
    have r7:=HLf.out.at 2 7 (v:=Z O aG) rfl rfl
    have r8:=HLf.out.at 2 8 (v:=Z O aH) rfl rfl
    have r9:=HLf.out.at 2 9 (v:=Z O aI) rfl rfl
    have r10:=HLf.out.at 2 10 (v:=Z O aJ) rfl rfl
    have r11:=HLf.out.at 2 11 (v:=Z O aK) rfl rfl
    have r12:=HLf.out.at 2 12 (v:=Z O aL) rfl rfl
    refine bodyPost_ret (v:=.agg #[Zl va vn vc,Z O aA,Z O aB,Z O aC,Z O aD,Z O aE,Z O aF,Z O aG,Z O aH,Z O aI,Z O aJ,Z O aK,Z O aL]) (by simp [results,Try.results52,go_sem,r0,r1,r2,r3,r4,r5,r6,r7,r8,r9,r10,r11,r12]) rfl ?_
    have HRg:=row_same (w':=(w6.setCells ge 0 [Zl va vn vc,Z O aA,Z O aB,Z O aC,Z O aD,Z O aE,Z O aF,Z O aG,Z O aH,Z O aI,Z O aJ,Z O aK,Z O aL])) HOW.out (fun g' hg=>heap_setCells w6 ge (by have h1:=(HOW.out.lt g' hg).1;have h2:=HWS.out;omega) _ _)
    rw [HM6.out,HL6.out]at HRg
    refine⟨(aN.set k (⟨xc,⟨dl+dl2,dh+dh2⟩,⟨wl+wl2,wh+wh2⟩,max pil pil2,lastBoil boi boi2,both src src2⟩,Value.slice (some ⟨gi,0,none⟩) um icap)).eraseIdx o,Zl va vn vc,(⟨⟨aA,aB⟩,⟨aC,aD⟩,⟨aE,aF⟩,⟨aG,aH⟩,⟨aI,aJ⟩,⟨aK,aL⟩⟩:Yd.Acc),rfl,HLf.out.low,?_,?_⟩
    ·refine stands_erase HSTW.out HLf.out.low HP.out rfl (.inr ⟨⟨by simp [intCells],.inr ⟨gi,icap,icur,by rw [← HINT.out.1],Nat.zero_le _,by have h9:=HLf.out.blk 7 rfl;rw [Array.toArray_toList]at h9;exact h9,by rw [← HINT.out.1];exact HINT.out.2.1,HINT.out.2.2.1,HINT.out.2.2.2.1,by rw [← HINT.out.1];exact HINT.out.2.2.2.2⟩⟩,HBL.out⟩) ?_
     have h3:=owns_lowerS HRg (Nat.zero_le _)
     rw [← HL6.out,← HM6.out]at h3 ⊢
     exact h3
    ·rw [deed_merge (d:=(⟨6,day,code,aM,⟨al,ah⟩,⟨bl,bh⟩⟩:Deed Code)) (Value.slice (some ⟨gi,0,none⟩) um icap) (i:Int) rfl HAT.out HP.out HAO.out HP2.out]
     rfl
end Go.Proofs.Ytgekekhbhkgekaa
