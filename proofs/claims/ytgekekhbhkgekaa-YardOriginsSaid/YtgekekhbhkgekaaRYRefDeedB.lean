/- The document's deed: a weighing. -/
import Derived.Test.YtgekekhbhkgekaaRYRefStack
namespace Go.Proofs.Ytgekekhbhkgekaa
open Go Go.RowKit Go.Shelf Yd
open Go.Value renaming int→Z,string→Zs,slice→Zl
open Go.IntKind renaming i64→O
open Go.Lib renaming hid→Zh
open _root_.Nat renaming le_of_ble_eq_true→Zn
open Go renaming wpList_store_mid→Zw,cell_regrown→Zg,below_regrown→Zk
set_option maxRecDepth 100000
set_option maxHeartbeats 16000000
set_option linter.unusedSimpArgs false
theorem rdeed_seven (tv:Value)(aN:List SRow)(aA aB aC aD aE aF aG aH aI aJ aK aL:Int)(day:Int)(code aM:Code)(al ah bl bh:Int)(i:Nat)(w:World)(hst:Stands w aN tv)(hs:SmallSt i (stOf aN (⟨⟨aA,aB⟩,⟨aC,aD⟩,⟨aE,aF⟩,⟨aG,aH⟩,⟨aI,aJ⟩,⟨aK,aL⟩⟩:Yd.Acc)))(hi:i≤12)(fd:Fits (⟨7,day,code,aM,⟨al,ah⟩,⟨bl,bh⟩⟩:Deed Code))(hsz:code.size≤maxLen∧aM.size≤maxLen)(k:Nat)(xc:Code)(dl dh wl wh pil boi:Int)(src:List Int)(fa:Option Addr)(fn fc:Nat)(hp:aN[k]? = some (⟨xc,⟨dl,dh⟩,⟨wl,wh⟩,pil,boi,src⟩,Zl fa fn fc))(hix:rxInt aN code=(k:Int))(hat:at_ (aN.map (fun p:SRow=>p.1)) code=k)  :
  Calls Try.prog 52 #[.agg #[tv,Z O aA,Z O aB,Z O aC,Z O aD,Z O aE,Z O aF,Z O aG,Z O aH,Z O aI,Z O aJ,Z O aK,Z O aL],.agg #[Z O 7,Z O day,Zs code,Zs aM,Z O al,Z O ah,Z O bl,Z O bh],Z O i] w (RDeedDone w aN (⟨⟨aA,aB⟩,⟨aC,aD⟩,⟨aE,aF⟩,⟨aG,aH⟩,⟨aI,aJ⟩,⟨aK,aL⟩⟩:Yd.Acc) (⟨7,day,code,aM,⟨al,ah⟩,⟨bl,bh⟩⟩:Deed Code) i):=by
 have hrl:aN.length≤8:=hst.few
 have hsm:=hs.stacks ⟨xc,⟨dl,dh⟩,⟨wl,wh⟩,pil,boi,src⟩ (List.mem_map.2 ⟨_,List.mem_of_getElem? hp,rfl⟩)
 have HUD:=Zh (up4_small hsm.dry hi);have HUW:=Zh (up4_small hsm.water hi)
 have hpi:0≤pil∧pil≤2000:=hsm.piled
 have hbo : -1≤boi∧boi≤2000:=hsm.boiled
 have HP:=Zh hp;have HIX:=Zh hix;have HAT:=Zh hat;have HKL:=Zh (row_here hp).1;have HX:=Zh (row_here hp).2
 have hkl:=(row_here hp).1
 simp only at HUD HUW
 clear hsm hp hix hat
 have HSTW:=Zh hst
 have HST:=Zh (fun W (hW:Below w.heap.size w W)=>hst.below hW)
 have hth:=hst.things
 have HFS:=Zh (from_slices hst)
 obtain⟨t1a,n,t1c,htv⟩:=row_slice hth
 subst htv
 have hn:n=aN.length:=row_len hth
 rw [← hn]at hrl hth
 have HN:=Zh hn;have HS:=Zh hs;have HTH:=Zh hth;have HFD:=Zh fd;have HSZ:=Zh hsz
 have hdy:=fd.day
 simp only at hdy
 have HU_vapour:=Zh (up4_small hs.acc.vapour hi)
 have HU_broth:=Zh (up4_small hs.acc.broth hi)
 have HU_dust:=Zh (up4_small hs.acc.dust hi)
 have HU_soldDry:=Zh (up4_small hs.acc.soldDry hi)
 have HU_soldWater:=Zh (up4_small hs.acc.soldWater hi)
 have HU_soaked:=Zh (up4_small hs.acc.soaked hi)
 have HUA:=Zh (fits_a fd)
 simp only [stOf]at HU_vapour HU_broth HU_dust HU_soldDry HU_soldWater HU_soaked HUA
 clear hst hs hn hth fd hsz
 have HL0:=Zh (p:=Locs w (((w.alloc (.cells #[Zl t1a n t1c,Z O aA,Z O aB,Z O aC,Z O aD,Z O aE,Z O aF,Z O aG,Z O aH,Z O aI,Z O aJ,Z O aK,Z O aL] 36)).alloc (.cells #[Z O 7,Z O day,Zs code,Zs aM,Z O al,Z O ah,Z O bl,Z O bh] 55)).alloc (.cells #[Zl none 0 0,Z O 0,Z O 0,Z O 0,Z O 0,Z O 0,Z O 0,Z O 0,Z O 0,Z O 0,Z O 0,Z O 0,Z O 0] 36)) [(w.heap.size,36,[Zl t1a n t1c,Z O aA,Z O aB,Z O aC,Z O aD,Z O aE,Z O aF,Z O aG,Z O aH,Z O aI,Z O aJ,Z O aK,Z O aL]),(w.heap.size+1,55,[Z O 7,Z O day,Zs code,Zs aM,Z O al,Z O ah,Z O bl,Z O bh]),(w.heap.size+1+1,36,[Zl none 0 0,Z O 0,Z O 0,Z O 0,Z O 0,Z O 0,Z O 0,Z O 0,Z O 0,Z O 0,Z O 0,Z O 0,Z O 0])] []) ((((Locs.start w).alloc 36 [Zl t1a n t1c,Z O aA,Z O aB,Z O aC,Z O aD,Z O aE,Z O aF,Z O aG,Z O aH,Z O aI,Z O aJ,Z O aK,Z O aL] rfl).alloc 55 [Z O 7,Z O day,Zs code,Zs aM,Z O al,Z O ah,Z O bl,Z O bh] (World.size_alloc _ _)).alloc 36 [Zl none 0 0,Z O 0,Z O 0,Z O 0,Z O 0,Z O 0,Z O 0,Z O 0,Z O 0,Z O 0,Z O 0,Z O 0,Z O 0] (by rw [World.size_alloc,World.size_alloc]))
 go_enter Try.func52,Try.ntmps52
 go_upto_region 1 with fail
 generalize World.alloc _ _=w1 at HL0 ⊢
 generalize w.heap.size+1+1=ge at HL0 ⊢
 generalize w.heap.size+1=gd at HL0 ⊢
 obtain⟨gs,hgs⟩:∃ g,g=w.heap.size:=⟨_,rfl⟩
 rw [← hgs]at HL0 ⊢
 clear hgs
 go_cut [7]from 15 to 18 (fun s7 wx => ∃(g cap:Nat) (aO:List Value),s7=Zl (some ⟨g,0,none⟩) n cap∧Hid (n≤cap∧cap≤maxLen∧aO.length=(cap-n)*8)∧Hid (Locs w wx [(gs,36,[Zl t1a n t1c,Z O aA,Z O aB,Z O aC,Z O aD,Z O aE,Z O aF,Z O aG,Z O aH,Z O aI,Z O aJ,Z O aK,Z O aL]),(gd,55,[Z O 7,Z O day,Zs code,Zs aM,Z O al,Z O ah,Z O bl,Z O bh]),(ge,36,[Zl none 0 0,Z O 0,Z O 0,Z O 0,Z O 0,Z O 0,Z O 0,Z O 0,Z O 0,Z O 0,Z O 0,Z O 0,Z O 0]),(g,49,flat rowCells aN++aO)] []))
 case first =>
  obtain⟨i1_,hi1,hi1a,hi1b,hi1c⟩:=info_parts info_stack
  have HI1:=Zh hi1;have HI1a:=Zh hi1a;have HI1b:=Zh hi1b;have HI1c:=Zh hi1c
  have HFL:=Zh (p:=(flat rowCells aN).length=n*8) (by rw [flat_length row_eight,HN.out])
  have HFO':=Zh (p:=∀ u ∈ flat rowCells aN,u.oneCell'=true) (row_onesS HFS.out)
  have HOWN1:=Zh (owns_emptyS w1)
  have HSZ1:=Zh (p:=w1.heap.size≤(w1.alloc (.cells #[] 49)).heap.size) (by rw [World.size_alloc];omega)
  have HLa:=Zh (HL0.out.below ((Below.refl w1.heap.size w1).alloc (Nat.le_refl _) (.cells #[] 49)))
  have HLT:=Zh (p:=∀ x ∈ ([(gs,36,[Zl t1a n t1c,Z O aA,Z O aB,Z O aC,Z O aD,Z O aE,Z O aF,Z O aG,Z O aH,Z O aI,Z O aJ,Z O aK,Z O aL]),(gd,55,[Z O 7,Z O day,Zs code,Zs aM,Z O al,Z O ah,Z O bl,Z O bh]),(ge,36,[Zl none 0 0,Z O 0,Z O 0,Z O 0,Z O 0,Z O 0,Z O 0,Z O 0,Z O 0,Z O 0,Z O 0,Z O 0,Z O 0])]:List (Nat × TypeId × List Value)),x.1<w1.heap.size) (fun x hx=>(HL0.out.loc x hx).1.lt)
  have r0:=HLa.out.at 0 0 (v:=Zl t1a n t1c) rfl rfl
  clear hi1 hi1a hi1b hi1c
  obtain⟨_,⟨hv0,hn0⟩ | ⟨b,bcap,bcur,hv,hbb,hbl,hbc,hbm,hbs,hbt⟩⟩:=HTH.out
  ·injection hv0 with e1 e2 e3
   subst e1 e2 e3
   have HR0:=Zh (p:=aN = []) (List.length_eq_zero_iff.1 HN.out.symm)
   go_wp2_with (at_builtin;refine wpList_append_own_none rfl (.tmp 15) (.tmp 17) 30 rfl w1.heap.size 49 i1_ 8 Try.underlying30 HI1.out _ _ _ rfl HOWN1.out rfl ?_)
   go_meet
   case rel =>
    refine⟨w1.heap.size,0,[],rfl,Zh ⟨Nat.le_refl _,by unfold maxLen;omega,rfl⟩,Zh ?_⟩
    rw [HR0.out]
    exact HL0.out.alloc 49 [] rfl
  ·injection hv with e1 e2 e3
   subst e1 e3
   clear e2
   have HHD6:=Zh (show ∀ j u,(flat rowCells aN)[j]? = some u→(w1.alloc (.cells #[] 49)).cell? ((⟨b,0,none⟩:Addr).add j)=some u from fun j u hu=>by
    have hb3:=((HST.out _ HLa.out.low).things)
    rw [← HN.out]at hb3
    obtain⟨g',cap',cur',hv',hb',hc',_,hs',ht'⟩:=row_block hb3 (by
     rcases Nat.eq_zero_or_pos n with h0 | h0
     ·have:=(List.getElem?_eq_some_iff.1 hu).1
      rw [HFL.out,h0]at this
      omega
     ·exact h0)
    injection hv' with e1 _ _
    injection e1 with e1
    injection e1 with e1
    subst e1
    rw [addr_add,hb'.cell,← Array.getElem?_toList]
    rw [flat_rows,← ht',List.getElem?_take]at hu
    split at hu
    ·exact hu
    ·cases hu)
   clear hbb hbl hbc hbm hbs hbt
   go_wp2_with (at_builtin;refine wpList_append_own _ rfl (.tmp 15) (.tmp 17) 30 rfl w1.heap.size 49 i1_ (.agg #[Zs ⟨#[]⟩,Z O 0,Z O 0,Z O 0,Z O 0,Z O 0,Z O 0,Zl none 0 0]) 8 88 Try.underlying30 HI1.out HI1a.out HI1b.out HI1c.out rfl (by decide) _ _ _ rfl HOWN1.out ⟨b,0,none⟩ n t1c (flat rowCells aN) rfl HFL.out HHD6.out HFO'.out (by unfold maxLen;omega) (by omega) HSZ1.out ?_;intro v7 w7 hown7 hgrow7 hnil7;have hne7:v7≠Zl none 0 0:=(fun hh=>(by have:=(hnil7.1 hh).1;cases this));simp only [Nat.zero_add,List.nil_append]at hown7;obtain⟨g,cap,cur,hv7,hcur,hcap,hcapm,hgw,hcs7,hgtake⟩:=row_blockS hown7 hne7;subst hv7;have hbel7:Below w1.heap.size (w1.alloc (.cells #[] 49)) w7:=(Below.refl _ _).grown hgrow7 HSZ1.out (fun k e=>(by cases e;exact Nat.le_refl _));have HL7:=Zh (HLa.out.belowAt hbel7 HL0.out.low.size HLT.out);have HCUR:=Zh hcur;have HCAP:=Zh (And.intro hcap (And.intro hcapm (And.intro hgw (And.intro hcs7 hgtake))));clear hown7 hgrow7 hnil7 hne7 hcur hcap hcapm hgw hcs7 hgtake hbel7)
   go_meet
   case rel =>
    have e:cur=(flat rowCells aN++cur.toList.drop (n*8)).toArray:=by rw [← HCAP.out.2.2.2.2,List.take_append_drop,Array.toArray_toList]
    refine⟨g,cap,cur.toList.drop (n*8),rfl,Zh ⟨HCAP.out.1,HCAP.out.2.1,by rw [List.length_drop,Array.length_toList,HCAP.out.2.2.2.1];omega⟩,Zh ?_⟩
    refine HL7.out.adopt ?_ (Nat.le_trans HL0.out.low.size HCAP.out.2.2.1) (fun x hx=>?_)
    ·rw [← e]
     exact HCUR.out
    ·have h1:=HCAP.out.2.2.1
     have h2:=HLT.out x hx
     omega
 case rest =>
  obtain⟨g,cap,aO,rfl,HCAP,HL1⟩:=hcut
  clear HL0
  have s0:=HL1.out.at 0 1 (v:=Z O aA) rfl rfl
  have s1:=HL1.out.at 0 2 (v:=Z O aB) rfl rfl
  have s2:=HL1.out.at 0 3 (v:=Z O aC) rfl rfl
  have s3:=HL1.out.at 0 4 (v:=Z O aD) rfl rfl
  have s4:=HL1.out.at 0 5 (v:=Z O aE) rfl rfl
  have s5:=HL1.out.at 0 6 (v:=Z O aF) rfl rfl
  have s6:=HL1.out.at 0 7 (v:=Z O aG) rfl rfl
  have s7:=HL1.out.at 0 8 (v:=Z O aH) rfl rfl
  have s8:=HL1.out.at 0 9 (v:=Z O aI) rfl rfl
  have s9:=HL1.out.at 0 10 (v:=Z O aJ) rfl rfl
  have s10:=HL1.out.at 0 11 (v:=Z O aK) rfl rfl
  have s11:=HL1.out.at 0 12 (v:=Z O aL) rfl rfl
  go_upto_region 3 with(((with_reducible refine at_store 34 (.tmp 8) (.tmp 20) ?_);go_must (refine Zw rfl 34 (.tmp 8) (.tmp 20) rfl wc.heap.size 0 _ rfl rfl ((Blk.new wc 34 #[Z O 0,Z O 0,Z O 0,Z O 0,Z O 0,Z O 0,Z O 0,Z O 0,Z O 0,Z O 0,Z O 0,Z O 0]).there (o:=0) (n:=12) (Zn rfl)) size_account (by simp [Value.oneCell']) ?_)))
  clear s0 s1 s2 s3 s4 s5 s6 s7 s8 s9 s10 s11
  have HL2:=Zh (p:=Locs w ((wc.alloc (.cells #[Z O 0,Z O 0,Z O 0,Z O 0,Z O 0,Z O 0,Z O 0,Z O 0,Z O 0,Z O 0,Z O 0,Z O 0] 34)).setCells wc.heap.size 0 [Z O aA,Z O aB,Z O aC,Z O aD,Z O aE,Z O aF,Z O aG,Z O aH,Z O aI,Z O aJ,Z O aK,Z O aL]) [(gs,36,[Zl t1a n t1c,Z O aA,Z O aB,Z O aC,Z O aD,Z O aE,Z O aF,Z O aG,Z O aH,Z O aI,Z O aJ,Z O aK,Z O aL]),(gd,55,[Z O 7,Z O day,Zs code,Zs aM,Z O al,Z O ah,Z O bl,Z O bh]),(ge,36,[Zl none 0 0,Z O 0,Z O 0,Z O 0,Z O 0,Z O 0,Z O 0,Z O 0,Z O 0,Z O 0,Z O 0,Z O 0,Z O 0]),(g,49,flat rowCells aN++aO),(wc.heap.size,34,[Z O aA,Z O aB,Z O aC,Z O aD,Z O aE,Z O aF,Z O aG,Z O aH,Z O aI,Z O aJ,Z O aK,Z O aL])] []) ((HL1.out.alloc 34 [Z O 0,Z O 0,Z O 0,Z O 0,Z O 0,Z O 0,Z O 0,Z O 0,Z O 0,Z O 0,Z O 0,Z O 0] rfl).setLoc 4 [] [Z O 0,Z O 0,Z O 0,Z O 0,Z O 0,Z O 0,Z O 0,Z O 0,Z O 0,Z O 0,Z O 0,Z O 0] [] [Z O aA,Z O aB,Z O aC,Z O aD,Z O aE,Z O aF,Z O aG,Z O aH,Z O aI,Z O aJ,Z O aK,Z O aL] rfl rfl)
  clear HL1
  generalize((wc.alloc (.cells #[Z O 0,Z O 0,Z O 0,Z O 0,Z O 0,Z O 0,Z O 0,Z O 0,Z O 0,Z O 0,Z O 0,Z O 0] 34)).setCells wc.heap.size 0 [Z O aA,Z O aB,Z O aC,Z O aD,Z O aE,Z O aF,Z O aG,Z O aH,Z O aI,Z O aJ,Z O aK,Z O aL])=v1 at HL2 ⊢
  generalize wc.heap.size=ga at HL2 ⊢
  try simp only [Act.put]
  obtain⟨ki,hki⟩:∃ x,x=rxInt aN code:=⟨_,rfl⟩
  obtain⟨oi,hoi⟩:∃ x,x=rxInt aN aM:=⟨_,rfl⟩
  have HKI:=Zh hki;have HOI:=Zh hoi
  clear hki hoi
  have HRW:=Zh (show v1.ownsRow w.heap.size 49 8 (Zl (some ⟨g,0,none⟩) n cap) aN.length (rowsCells aN)from by
   have h1:=(rowed_ofS (L:=[(gs,36,[Zl t1a n t1c,Z O aA,Z O aB,Z O aC,Z O aD,Z O aE,Z O aF,Z O aG,Z O aH,Z O aI,Z O aJ,Z O aK,Z O aL]),(gd,55,[Z O 7,Z O day,Zs code,Zs aM,Z O al,Z O ah,Z O bl,Z O bh]),(ge,36,[Zl none 0 0,Z O 0,Z O 0,Z O 0,Z O 0,Z O 0,Z O 0,Z O 0,Z O 0,Z O 0,Z O 0,Z O 0,Z O 0])]) (HL2.out.fewer (List.sublist_append_left ([(gs,36,[Zl t1a n t1c,Z O aA,Z O aB,Z O aC,Z O aD,Z O aE,Z O aF,Z O aG,Z O aH,Z O aI,Z O aJ,Z O aK,Z O aL]),(gd,55,[Z O 7,Z O day,Zs code,Zs aM,Z O al,Z O ah,Z O bl,Z O bh]),(ge,36,[Zl none 0 0,Z O 0,Z O 0,Z O 0,Z O 0,Z O 0,Z O 0,Z O 0,Z O 0,Z O 0,Z O 0,Z O 0,Z O 0]),(g,49,flat rowCells aN++aO)]:List (Nat × TypeId × List Value)) _) (List.Sublist.refl _)) HN.out.symm HCAP.out).own
   rw [flat_rows]at h1
   rw [← HN.out]
   exact h1)
  have m0:∀ d os,Calls Try.prog 68 #[Zl (some ⟨g,0,none⟩) n cap,Zs code] (Go.Sort.grow (redrawn v1 d) os) fun e w''=>e=.returned (Z O ki)∧∃ p:Regrown,w''=Go.Sort.grow (redrawn v1 p.d) p.os:=fun d os=>Calls.regrown_of (by rw [HKI.out];exact rat_calls _ aN code _ (row_same HRW.out (fun g' hg=>(Zk v1 d os).block g' (row_lt HRW.out hg))) (by rw [← HN.out];omega))
  have m1:∀ d os,Calls Try.prog 68 #[Zl (some ⟨g,0,none⟩) n cap,Zs aM] (Go.Sort.grow (redrawn v1 d) os) fun e w''=>e=.returned (Z O oi)∧∃ p:Regrown,w''=Go.Sort.grow (redrawn v1 p.d) p.os:=fun d os=>Calls.regrown_of (by rw [HOI.out];exact rat_calls _ aN aM _ (row_same HRW.out (fun g' hg=>(Zk v1 d os).block g' (row_lt HRW.out hg))) (by rw [← HN.out];omega))
  have q0:=Zg (HL2.out.at 1 2 (v:=Zs code) rfl rfl)
  have q1:=Zg (HL2.out.at 1 3 (v:=Zs aM) rfl rfl)
  refine wp_region_quiet_below (by kernel_rfl) (by kernel_rfl) ?_
  repeat(go_big_quiet_step (first|(with_reducible exact m0 _ _)|(with_reducible exact m1 _ _)))
  refine wpQuiet_nil ?_
  intro wq hw'
  have hb8:Below v1.heap.size v1 wq:=by obtain⟨⟨dq,osq⟩,hw''⟩:=hw';rw [hw''];exact Zk _ dq osq
  clear hw' q0 q1 m0 m1 HRW
  have HL3:=Zh (HL2.out.below hb8)
  clear hb8 HL2
  generalize wq=v2 at HL3 ⊢
  have hkk:ki=(k:Int):=HKI.out.trans HIX.out
  subst hkk
  have hkn:k<n:=by rw [HN.out];exact hkl
  have hknI:(k:Int)<(n:Int):=by omega
  have hnc:n≤cap:=HCAP.out.1
  clear hkl
  have s0:=HL3.out.at 1 0 (v:=Z O 7) rfl rfl
  have c0:=(show v2.cell? ⟨g,k*8,none⟩=some (Zs xc)from(row_cellS HL3.out 3 rfl HKL.out 0 (by decide)).trans (by rw [HX.out];rfl))
  have c1:=(show v2.cell? ⟨g,k*8+1,none⟩=some (Z O dl)from(row_cellS HL3.out 3 rfl HKL.out 1 (by decide)).trans (by rw [HX.out];rfl))
  have c2:=(show v2.cell? ⟨g,k*8+2,none⟩=some (Z O dh)from(row_cellS HL3.out 3 rfl HKL.out 2 (by decide)).trans (by rw [HX.out];rfl))
  have c3:=(show v2.cell? ⟨g,k*8+3,none⟩=some (Z O wl)from(row_cellS HL3.out 3 rfl HKL.out 3 (by decide)).trans (by rw [HX.out];rfl))
  have c4:=(show v2.cell? ⟨g,k*8+4,none⟩=some (Z O wh)from(row_cellS HL3.out 3 rfl HKL.out 4 (by decide)).trans (by rw [HX.out];rfl))
  have c5:=(show v2.cell? ⟨g,k*8+5,none⟩=some (Z O pil)from(row_cellS HL3.out 3 rfl HKL.out 5 (by decide)).trans (by rw [HX.out];rfl))
  have c6:=(show v2.cell? ⟨g,k*8+6,none⟩=some (Z O boi)from(row_cellS HL3.out 3 rfl HKL.out 6 (by decide)).trans (by rw [HX.out];rfl))
  have c7:=(show v2.cell? ⟨g,k*8+7,none⟩=some (Zl fa fn fc)from(row_cellS HL3.out 3 rfl HKL.out 7 (by decide)).trans (by rw [HX.out];rfl))
  go_upto_region 8 with((with_reducible refine at_store 49 (.tmp 11) (.tmp 52) ?_);go_must (refine Zw rfl 49 (.tmp 11) (.tmp 52) rfl v2.heap.size 0 _ rfl rfl ((Blk.new v2 49 #[Zs ⟨#[]⟩,Z O 0,Z O 0,Z O 0,Z O 0,Z O 0,Z O 0,Zl none 0 0]).there (o:=0) (n:=8) (Zn rfl)) size_stack ((by simp [Value.oneCell'])) ?_))
  clear s0 c0 c1 c2 c3 c4 c5 c6 c7
  have HL4:=Zh (p:=Locs w ((v2.alloc (.cells #[Zs ⟨#[]⟩,Z O 0,Z O 0,Z O 0,Z O 0,Z O 0,Z O 0,Zl none 0 0] 49)).setCells v2.heap.size 0 [Zs xc,Z O dl,Z O dh,Z O wl,Z O wh,Z O pil,Z O boi,Zl fa fn fc]) [(gs,36,[Zl t1a n t1c,Z O aA,Z O aB,Z O aC,Z O aD,Z O aE,Z O aF,Z O aG,Z O aH,Z O aI,Z O aJ,Z O aK,Z O aL]),(gd,55,[Z O 7,Z O day,Zs code,Zs aM,Z O al,Z O ah,Z O bl,Z O bh]),(ge,36,[Zl none 0 0,Z O 0,Z O 0,Z O 0,Z O 0,Z O 0,Z O 0,Z O 0,Z O 0,Z O 0,Z O 0,Z O 0,Z O 0]),(g,49,flat rowCells aN++aO),(ga,34,[Z O aA,Z O aB,Z O aC,Z O aD,Z O aE,Z O aF,Z O aG,Z O aH,Z O aI,Z O aJ,Z O aK,Z O aL]),(v2.heap.size,49,[Zs xc,Z O dl,Z O dh,Z O wl,Z O wh,Z O pil,Z O boi,Zl fa fn fc])] []) ((HL3.out.alloc 49 [Zs ⟨#[]⟩,Z O 0,Z O 0,Z O 0,Z O 0,Z O 0,Z O 0,Zl none 0 0] rfl).setLoc 5 [] [Zs ⟨#[]⟩,Z O 0,Z O 0,Z O 0,Z O 0,Z O 0,Z O 0,Zl none 0 0] [] [Zs xc,Z O dl,Z O dh,Z O wl,Z O wh,Z O pil,Z O boi,Zl fa fn fc] rfl rfl)
  clear HL3
  generalize((v2.alloc (.cells #[Zs ⟨#[]⟩,Z O 0,Z O 0,Z O 0,Z O 0,Z O 0,Z O 0,Zl none 0 0] 49)).setCells v2.heap.size 0 [Zs xc,Z O dl,Z O dh,Z O wl,Z O wh,Z O pil,Z O boi,Zl fa fn fc])=v3 at HL4 ⊢
  generalize v2.heap.size=gx at HL4 ⊢
  try simp only [Act.put]
  have HW1:=Zh (p:=∀ W:World,Calls Try.prog 69 #[.agg #[Z O (dl),Z O (dh)],.agg #[Z O (wl),Z O (wh)],.agg #[Z O (al),Z O (ah)]] W (fun e w'=>e=.returned (.agg #[Z O (max dl (al-wh)),Z O (min dh (ah-wl))])∧Below W.heap.size W w')) (fun W=>rweighed_up HUD.out HUW.out HUA.out W)
  have HW2:=Zh (p:=∀ W:World,Calls Try.prog 69 #[.agg #[Z O (wl),Z O (wh)],.agg #[Z O (dl),Z O (dh)],.agg #[Z O (al),Z O (ah)]] W (fun e w'=>e=.returned (.agg #[Z O (max wl (al-dh)),Z O (min wh (ah-dl))])∧Below W.heap.size W w')) (fun W=>rweighed_up HUW.out HUD.out HUA.out W)
  have u0:=HL4.out.at 1 0 (v:=Z O 7) rfl rfl
  go_upto_region 31 with fail
  clear u0
  skip
  have q0:=Zg (HL4.out.at 5 1 (v:=Z O dl) rfl rfl)
  have q1:=Zg (HL4.out.at 5 2 (v:=Z O dh) rfl rfl)
  have q2:=Zg (HL4.out.at 5 3 (v:=Z O wl) rfl rfl)
  have q3:=Zg (HL4.out.at 5 4 (v:=Z O wh) rfl rfl)
  have q4:=Zg (HL4.out.at 1 4 (v:=Z O al) rfl rfl)
  have q5:=Zg (HL4.out.at 1 5 (v:=Z O ah) rfl rfl)
  have k0_:∀ d os,Calls Try.prog 69 #[.agg #[Z O (dl),Z O (dh)],.agg #[Z O (wl),Z O (wh)],.agg #[Z O (al),Z O (ah)]] (Go.Sort.grow (redrawn v3 d) os) fun e w''=>e=.returned (.agg #[Z O (max dl (al-wh)),Z O (min dh (ah-wl))])∧∃ p:Regrown,w''=Go.Sort.grow (redrawn v3 p.d) p.os:=regrown_calls HW1.out
  have k1_:∀ d os,Calls Try.prog 69 #[.agg #[Z O (wl),Z O (wh)],.agg #[Z O (dl),Z O (dh)],.agg #[Z O (al),Z O (ah)]] (Go.Sort.grow (redrawn v3 d) os) fun e w''=>e=.returned (.agg #[Z O (max wl (al-dh)),Z O (min wh (ah-dl))])∧∃ p:Regrown,w''=Go.Sort.grow (redrawn v3 p.d) p.os:=regrown_calls HW2.out
  refine region_split_below 15 (by kernel_rfl) (by kernel_rfl) (by kernel_rfl) ?_
  simp only [List.take_succ_cons,List.take_zero,List.drop_succ_cons,List.drop_zero]
  repeat(go_big_quiet_step (first|(with_reducible exact k0_ _ _)|(with_reducible exact k1_ _ _)))
  refine wpQuiet_nil ?_
  intro wq hw'
  have hb8:Below v3.heap.size v3 wq:=by obtain⟨⟨dq,osq⟩,hw''⟩:=hw';rw [hw''];exact Zk _ dq osq
  clear hw' q0 q1 q2 q3 q4 q5 k0_ k1_
  have HL5:=Zh (HL4.out.below hb8)
  clear hb8 HL4
  generalize wq=v4 at HL5 ⊢
  go_upto_region 34 with(first
   | ((with_reducible refine at_store 32 (.tmp 236) (.tmp 228) ?_);go_must (refine Zw rfl 32 (.tmp 236) (.tmp 228) rfl gx 1 _ rfl rfl (HL5.out.there 5 (o:=1) (n:=2) rfl (Zn rfl)) size_bounds (by simp [Value.oneCell']) ?_);have HLs0:=Zh (p:=Locs w (v4.setCells gx 1 [Z O (max dl (al-wh)),Z O (min dh (ah-wl))]) [(gs,36,[Zl t1a n t1c,Z O aA,Z O aB,Z O aC,Z O aD,Z O aE,Z O aF,Z O aG,Z O aH,Z O aI,Z O aJ,Z O aK,Z O aL]),(gd,55,[Z O 7,Z O day,Zs code,Zs aM,Z O al,Z O ah,Z O bl,Z O bh]),(ge,36,[Zl none 0 0,Z O 0,Z O 0,Z O 0,Z O 0,Z O 0,Z O 0,Z O 0,Z O 0,Z O 0,Z O 0,Z O 0,Z O 0]),(g,49,flat rowCells aN++aO),(ga,34,[Z O aA,Z O aB,Z O aC,Z O aD,Z O aE,Z O aF,Z O aG,Z O aH,Z O aI,Z O aJ,Z O aK,Z O aL]),(gx,49,[Zs xc,Z O (max dl (al-wh)),Z O (min dh (ah-wl)),Z O wl,Z O wh,Z O pil,Z O boi,Zl fa fn fc])] []) (HL5.out.put 5 1 _ rfl))
   | ((with_reducible refine at_store 32 (.tmp 237) (.tmp 235) ?_);go_must (refine Zw rfl 32 (.tmp 237) (.tmp 235) rfl gx 3 _ rfl rfl (HLs0.out.there 5 (o:=3) (n:=2) rfl (Zn rfl)) size_bounds (by simp [Value.oneCell']) ?_);have HLs1:=Zh (p:=Locs w ((v4.setCells gx 1 [Z O (max dl (al-wh)),Z O (min dh (ah-wl))]).setCells gx 3 [Z O (max wl (al-dh)),Z O (min wh (ah-dl))]) [(gs,36,[Zl t1a n t1c,Z O aA,Z O aB,Z O aC,Z O aD,Z O aE,Z O aF,Z O aG,Z O aH,Z O aI,Z O aJ,Z O aK,Z O aL]),(gd,55,[Z O 7,Z O day,Zs code,Zs aM,Z O al,Z O ah,Z O bl,Z O bh]),(ge,36,[Zl none 0 0,Z O 0,Z O 0,Z O 0,Z O 0,Z O 0,Z O 0,Z O 0,Z O 0,Z O 0,Z O 0,Z O 0,Z O 0]),(g,49,flat rowCells aN++aO),(ga,34,[Z O aA,Z O aB,Z O aC,Z O aD,Z O aE,Z O aF,Z O aG,Z O aH,Z O aI,Z O aJ,Z O aK,Z O aL]),(gx,49,[Zs xc,Z O (max dl (al-wh)),Z O (min dh (ah-wl)),Z O (max wl (al-dh)),Z O (min wh (ah-dl)),Z O pil,Z O boi,Zl fa fn fc])] []) (HLs0.out.put 5 3 _ rfl)))
  have HL6:=HLs1
  clear HL5
  try clear HLs0
  try clear HLs1
  generalize World.setCells _ _ _ _=v5 at HL6 ⊢
  try simp only [Act.put]
  have s0:=HL6.out.at 5 0 (v:=Zs xc) rfl rfl
  have s1:=HL6.out.at 5 1 (v:=Z O (max dl (al-wh))) rfl rfl
  have s2:=HL6.out.at 5 2 (v:=Z O (min dh (ah-wl))) rfl rfl
  have s3:=HL6.out.at 5 3 (v:=Z O (max wl (al-dh))) rfl rfl
  have s4:=HL6.out.at 5 4 (v:=Z O (min wh (ah-dl))) rfl rfl
  have s5:=HL6.out.at 5 5 (v:=Z O pil) rfl rfl
  have s6:=HL6.out.at 5 6 (v:=Z O boi) rfl rfl
  have s7:=HL6.out.at 5 7 (v:=Zl fa fn fc) rfl rfl
  have s8:=HL6.out.at 1 0 (v:=Z O 7) rfl rfl
  have s9:=HL6.out.at 4 0 (v:=Z O aA) rfl rfl
  have s10:=HL6.out.at 4 1 (v:=Z O aB) rfl rfl
  have s11:=HL6.out.at 4 2 (v:=Z O aC) rfl rfl
  have s12:=HL6.out.at 4 3 (v:=Z O aD) rfl rfl
  have s13:=HL6.out.at 4 4 (v:=Z O aE) rfl rfl
  have s14:=HL6.out.at 4 5 (v:=Z O aF) rfl rfl
  have s15:=HL6.out.at 4 6 (v:=Z O aG) rfl rfl
  have s16:=HL6.out.at 4 7 (v:=Z O aH) rfl rfl
  have s17:=HL6.out.at 4 8 (v:=Z O aI) rfl rfl
  have s18:=HL6.out.at 4 9 (v:=Z O aJ) rfl rfl
  have s19:=HL6.out.at 4 10 (v:=Z O aK) rfl rfl
  have s20:=HL6.out.at 4 11 (v:=Z O aL) rfl rfl
  have HLr:=Zh (p:=Locs w (v5.setCells g (k*8) [Zs xc,Z O (max dl (al-wh)),Z O (min dh (ah-wl)),Z O (max wl (al-dh)),Z O (min wh (ah-dl)),Z O pil,Z O boi,Zl fa fn fc]) [(gs,36,[Zl t1a n t1c,Z O aA,Z O aB,Z O aC,Z O aD,Z O aE,Z O aF,Z O aG,Z O aH,Z O aI,Z O aJ,Z O aK,Z O aL]),(gd,55,[Z O 7,Z O day,Zs code,Zs aM,Z O al,Z O ah,Z O bl,Z O bh]),(ge,36,[Zl none 0 0,Z O 0,Z O 0,Z O 0,Z O 0,Z O 0,Z O 0,Z O 0,Z O 0,Z O 0,Z O 0,Z O 0,Z O 0]),(g,49,flat rowCells (aN.set k (⟨xc,⟨max dl (al-wh),min dh (ah-wl)⟩,⟨max wl (al-dh),min wh (ah-dl)⟩,pil,boi,src⟩,Value.slice fa fn fc))++aO),(ga,34,[Z O aA,Z O aB,Z O aC,Z O aD,Z O aE,Z O aF,Z O aG,Z O aH,Z O aI,Z O aJ,Z O aK,Z O aL]),(gx,49,[Zs xc,Z O (max dl (al-wh)),Z O (min dh (ah-wl)),Z O (max wl (al-dh)),Z O (min wh (ah-dl)),Z O pil,Z O boi,Zl fa fn fc])] []) (HL6.out.setRowS 3 rfl HKL.out (⟨xc,⟨max dl (al-wh),min dh (ah-wl)⟩,⟨max wl (al-dh),min wh (ah-dl)⟩,pil,boi,src⟩,Value.slice fa fn fc))
  have HTHR:=Zh (p:=v5.there g (k*8) 8) (HL6.out.there 3 rfl (by have h1:=HKL.out;rw [List.length_append,flat_length row_eight];omega))
  go_wp2_with (first
   | ((with_reducible refine at_store 49 (.tmp 255) (.tmp 254) ?_);go_must (refine Zw rfl 49 (.tmp 255) (.tmp 254) rfl g (k*8) _ rfl rfl HTHR.out size_stack (by simp [Value.oneCell']) ?_);have HLs:=HLr;clear s0 s1 s2 s3 s4 s5 s6 s7 s8 s9 s10 s11 s12 s13 s14 s15 s16 s17 s18 s19 s20;have t0:=HLs.out.at 4 0 (v:=Z O aA) rfl rfl;have t1:=HLs.out.at 4 1 (v:=Z O aB) rfl rfl;have t2:=HLs.out.at 4 2 (v:=Z O aC) rfl rfl;have t3:=HLs.out.at 4 3 (v:=Z O aD) rfl rfl;have t4:=HLs.out.at 4 4 (v:=Z O aE) rfl rfl;have t5:=HLs.out.at 4 5 (v:=Z O aF) rfl rfl;have t6:=HLs.out.at 4 6 (v:=Z O aG) rfl rfl;have t7:=HLs.out.at 4 7 (v:=Z O aH) rfl rfl;have t8:=HLs.out.at 4 8 (v:=Z O aI) rfl rfl;have t9:=HLs.out.at 4 9 (v:=Z O aJ) rfl rfl;have t10:=HLs.out.at 4 10 (v:=Z O aK) rfl rfl;have t11:=HLs.out.at 4 11 (v:=Z O aL) rfl rfl;have td:=HLs.out.at 1 0 (v:=Z O 7) rfl rfl)
   | ((with_reducible refine at_store 36 (.tmp 6) (.tmp 270) ?_);go_must (refine Zw rfl 36 (.tmp 6) (.tmp 270) rfl ge 0 _ rfl rfl (HLr.out.there 2 (o:=0) (n:=13) rfl (Zn rfl)) size_standing (by simp [Value.oneCell']) ?_)))
  clear t0 t1 t2 t3 t4 t5 t6 t7 t8 t9 t10 t11 td
  have HLf:=Zh (p:=Locs w ((v5.setCells g (k*8) [Zs xc,Z O (max dl (al-wh)),Z O (min dh (ah-wl)),Z O (max wl (al-dh)),Z O (min wh (ah-dl)),Z O pil,Z O boi,Zl fa fn fc]).setCells ge 0 [Zl (some ⟨g,0,none⟩) n cap,Z O aA,Z O aB,Z O aC,Z O aD,Z O aE,Z O aF,Z O aG,Z O aH,Z O aI,Z O aJ,Z O aK,Z O aL]) [(gs,36,[Zl t1a n t1c,Z O aA,Z O aB,Z O aC,Z O aD,Z O aE,Z O aF,Z O aG,Z O aH,Z O aI,Z O aJ,Z O aK,Z O aL]),(gd,55,[Z O 7,Z O day,Zs code,Zs aM,Z O al,Z O ah,Z O bl,Z O bh]),(ge,36,[Zl (some ⟨g,0,none⟩) n cap,Z O aA,Z O aB,Z O aC,Z O aD,Z O aE,Z O aF,Z O aG,Z O aH,Z O aI,Z O aJ,Z O aK,Z O aL]),(g,49,flat rowCells (aN.set k (⟨xc,⟨max dl (al-wh),min dh (ah-wl)⟩,⟨max wl (al-dh),min wh (ah-dl)⟩,pil,boi,src⟩,Value.slice fa fn fc))++aO),(ga,34,[Z O aA,Z O aB,Z O aC,Z O aD,Z O aE,Z O aF,Z O aG,Z O aH,Z O aI,Z O aJ,Z O aK,Z O aL]),(gx,49,[Zs xc,Z O (max dl (al-wh)),Z O (min dh (ah-wl)),Z O (max wl (al-dh)),Z O (min wh (ah-dl)),Z O pil,Z O boi,Zl fa fn fc])] []) (HLr.out.put 2 0 _ rfl)
  have r0:=HLf.out.at 2 0 (v:=Zl (some ⟨g,0,none⟩) n cap) rfl rfl
  have r1:=HLf.out.at 2 1 (v:=Z O aA) rfl rfl
  have r2:=HLf.out.at 2 2 (v:=Z O aB) rfl rfl
  have r3:=HLf.out.at 2 3 (v:=Z O aC) rfl rfl
  have r4:=HLf.out.at 2 4 (v:=Z O aD) rfl rfl
  have r5:=HLf.out.at 2 5 (v:=Z O aE) rfl rfl
  have r6:=HLf.out.at 2 6 (v:=Z O aF) rfl rfl
  have r7:=HLf.out.at 2 7 (v:=Z O aG) rfl rfl
  have r8:=HLf.out.at 2 8 (v:=Z O aH) rfl rfl
  have r9:=HLf.out.at 2 9 (v:=Z O aI) rfl rfl
  have r10:=HLf.out.at 2 10 (v:=Z O aJ) rfl rfl
  have r11:=HLf.out.at 2 11 (v:=Z O aK) rfl rfl
  have r12:=HLf.out.at 2 12 (v:=Z O aL) rfl rfl
  refine bodyPost_ret (v:=.agg #[Zl (some ⟨g,0,none⟩) n cap,Z O aA,Z O aB,Z O aC,Z O aD,Z O aE,Z O aF,Z O aG,Z O aH,Z O aI,Z O aJ,Z O aK,Z O aL]) (by simp [results,Try.results52,go_sem,r0,r1,r2,r3,r4,r5,r6,r7,r8,r9,r10,r11,r12]) rfl ?_
  have hll:(aN.set k (⟨xc,⟨max dl (al-wh),min dh (ah-wl)⟩,⟨max wl (al-dh),min wh (ah-dl)⟩,pil,boi,src⟩,Value.slice fa fn fc)).length=n:=by rw [List.length_set,← HN.out]
  have HRg:=(rowed_ofS (L:=[(gs,36,[Zl t1a n t1c,Z O aA,Z O aB,Z O aC,Z O aD,Z O aE,Z O aF,Z O aG,Z O aH,Z O aI,Z O aJ,Z O aK,Z O aL]),(gd,55,[Z O 7,Z O day,Zs code,Zs aM,Z O al,Z O ah,Z O bl,Z O bh]),(ge,36,[Zl (some ⟨g,0,none⟩) n cap,Z O aA,Z O aB,Z O aC,Z O aD,Z O aE,Z O aF,Z O aG,Z O aH,Z O aI,Z O aJ,Z O aK,Z O aL])]) (HLf.out.fewer (List.sublist_append_left ([(gs,36,[Zl t1a n t1c,Z O aA,Z O aB,Z O aC,Z O aD,Z O aE,Z O aF,Z O aG,Z O aH,Z O aI,Z O aJ,Z O aK,Z O aL]),(gd,55,[Z O 7,Z O day,Zs code,Zs aM,Z O al,Z O ah,Z O bl,Z O bh]),(ge,36,[Zl (some ⟨g,0,none⟩) n cap,Z O aA,Z O aB,Z O aC,Z O aD,Z O aE,Z O aF,Z O aG,Z O aH,Z O aI,Z O aJ,Z O aK,Z O aL]),(g,49,flat rowCells (aN.set k (⟨xc,⟨max dl (al-wh),min dh (ah-wl)⟩,⟨max wl (al-dh),min wh (ah-dl)⟩,pil,boi,src⟩,Value.slice fa fn fc))++aO)]:List (Nat × TypeId × List Value)) _) (List.Sublist.refl _)) hll HCAP.out).own
  rw [flat_rows,← hll]at HRg
  refine⟨aN.set k (⟨xc,⟨max dl (al-wh),min dh (ah-wl)⟩,⟨max wl (al-dh),min wh (ah-dl)⟩,pil,boi,src⟩,Value.slice fa fn fc),Zl (some ⟨g,0,none⟩) n cap,(⟨⟨aA,aB⟩,⟨aC,aD⟩,⟨aE,aF⟩,⟨aG,aH⟩,⟨aI,aJ⟩,⟨aK,aL⟩⟩:Yd.Acc),rfl,HLf.out.low,?_,?_⟩
  ·refine stands_set HSTW.out HLf.out.low HP.out rfl rfl rfl ?_
   rw [← hll]
   exact owns_lowerS HRg (Nat.zero_le _)
  ·rw [deed_set (d:=(⟨7,day,code,aM,⟨al,ah⟩,⟨bl,bh⟩⟩:Deed Code)) (i:Int) (.inr (.inr (.inr rfl))) HAT.out HP.out]
   rfl
end Go.Proofs.Ytgekekhbhkgekaa
