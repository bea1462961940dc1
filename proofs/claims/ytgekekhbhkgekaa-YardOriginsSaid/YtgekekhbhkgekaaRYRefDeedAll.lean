/- The document's deed: a pile. The document's deed: all kinds together. -/
import Derived.Test.YtgekekhbhkgekaaRYRefStack
import Derived.Test.YtgekekhbhkgekaaRYRefDeed
import Derived.Test.YtgekekhbhkgekaaRYRefDeedB
import Derived.Test.YtgekekhbhkgekaaRYRefDeedC
import Derived.Test.YtgekekhbhkgekaaRYRefDeedD
import Derived.Test.YtgekekhbhkgekaaRYRefDeedE
import Derived.Test.YtgekekhbhkgekaaRYRefDeedF
import Derived.Test.YtgekekhbhkgekaaRYRefDeedG
namespace Go.Proofs.Ytgekekhbhkgekaa
open Go Go.RowKit Go.Shelf Yd
open Go.Value renaming int→Z,string→Zs,slice→Zl
open Go.IntKind renaming i64→O
open Go.Lib renaming hid→Zh
open _root_.Nat renaming le_of_ble_eq_true→Zn
open Go renaming wpList_store_mid→Zw,cell_regrown→Zg,below_regrown→Zk
set_option maxRecDepth 100000
set_option maxHeartbeats 16000000
set_option linter.unusedSimpArgs false
theorem rdeed_one (tv:Value)(aN:List SRow)(aA aB aC aD aE aF aG aH aI aJ aK aL:Int)(day:Int)(code aM:Code)(al ah bl bh:Int)(i:Nat)(w:World)(hst:Stands w aN tv)(hs:SmallSt i (stOf aN (⟨⟨aA,aB⟩,⟨aC,aD⟩,⟨aE,aF⟩,⟨aG,aH⟩,⟨aI,aJ⟩,⟨aK,aL⟩⟩:Yd.Acc)))(hi:i≤12)(fd:Fits (⟨1,day,code,aM,⟨al,ah⟩,⟨bl,bh⟩⟩:Deed Code))(hsz:code.size≤maxLen∧aM.size≤maxLen)(hnew:∀ r ∈ aN,r.1.code≠code)(h8:aN.length<8) :
  Calls Try.prog 52 #[.agg #[tv,Z O aA,Z O aB,Z O aC,Z O aD,Z O aE,Z O aF,Z O aG,Z O aH,Z O aI,Z O aJ,Z O aK,Z O aL],.agg #[Z O 1,Z O day,Zs code,Zs aM,Z O al,Z O ah,Z O bl,Z O bh],Z O i] w (RDeedDone w aN (⟨⟨aA,aB⟩,⟨aC,aD⟩,⟨aE,aF⟩,⟨aG,aH⟩,⟨aI,aJ⟩,⟨aK,aL⟩⟩:Yd.Acc) (⟨1,day,code,aM,⟨al,ah⟩,⟨bl,bh⟩⟩:Deed Code) i):=by
 have hrl:aN.length≤8:=hst.few
 have HSTW:=Zh hst
 have HST:=Zh (fun W (hW:Below w.heap.size w W)=>hst.below hW)
 have hth:=hst.things
 have HFS:=Zh (from_slices hst)
 obtain⟨t1a,n,t1c,htv⟩:=row_slice hth
 subst htv
 have hn:n=aN.length:=row_len hth
 rw [← hn]at hrl hth
 have HN:=Zh hn;have HS:=Zh hs;have HTH:=Zh hth;have HFD:=Zh fd;have HSZ:=Zh hsz
 have hdy:=fd.day
 simp only at hdy
 have HU_vapour:=Zh (up4_small hs.acc.vapour hi)
 have HU_broth:=Zh (up4_small hs.acc.broth hi)
 have HU_dust:=Zh (up4_small hs.acc.dust hi)
 have HU_soldDry:=Zh (up4_small hs.acc.soldDry hi)
 have HU_soldWater:=Zh (up4_small hs.acc.soldWater hi)
 have HU_soaked:=Zh (up4_small hs.acc.soaked hi)
 have HUA:=Zh (fits_a fd)
 simp only [stOf]at HU_vapour HU_broth HU_dust HU_soldDry HU_soldWater HU_soaked HUA
 clear hst hs hn hth fd hsz
 have HL0:=Zh (p:=Locs w (((w.alloc (.cells #[Zl t1a n t1c,Z O aA,Z O aB,Z O aC,Z O aD,Z O aE,Z O aF,Z O aG,Z O aH,Z O aI,Z O aJ,Z O aK,Z O aL] 36)).alloc (.cells #[Z O 1,Z O day,Zs code,Zs aM,Z O al,Z O ah,Z O bl,Z O bh] 55)).alloc (.cells #[Zl none 0 0,Z O 0,Z O 0,Z O 0,Z O 0,Z O 0,Z O 0,Z O 0,Z O 0,Z O 0,Z O 0,Z O 0,Z O 0] 36)) [(w.heap.size,36,[Zl t1a n t1c,Z O aA,Z O aB,Z O aC,Z O aD,Z O aE,Z O aF,Z O aG,Z O aH,Z O aI,Z O aJ,Z O aK,Z O aL]),(w.heap.size+1,55,[Z O 1,Z O day,Zs code,Zs aM,Z O al,Z O ah,Z O bl,Z O bh]),(w.heap.size+1+1,36,[Zl none 0 0,Z O 0,Z O 0,Z O 0,Z O 0,Z O 0,Z O 0,Z O 0,Z O 0,Z O 0,Z O 0,Z O 0,Z O 0])] []) ((((Locs.start w).alloc 36 [Zl t1a n t1c,Z O aA,Z O aB,Z O aC,Z O aD,Z O aE,Z O aF,Z O aG,Z O aH,Z O aI,Z O aJ,Z O aK,Z O aL] rfl).alloc 55 [Z O 1,Z O day,Zs code,Zs aM,Z O al,Z O ah,Z O bl,Z O bh] (World.size_alloc _ _)).alloc 36 [Zl none 0 0,Z O 0,Z O 0,Z O 0,Z O 0,Z O 0,Z O 0,Z O 0,Z O 0,Z O 0,Z O 0,Z O 0,Z O 0] (by rw [World.size_alloc,World.size_alloc]))
 go_enter Try.func52,Try.ntmps52
 go_upto_region 1 with fail
 generalize World.alloc _ _=w1 at HL0 ⊢
 generalize w.heap.size+1+1=ge at HL0 ⊢
 generalize w.heap.size+1=gd at HL0 ⊢
 obtain⟨gs,hgs⟩:∃ g,g=w.heap.size:=⟨_,rfl⟩
 rw [← hgs]at HL0 ⊢
 clear hgs
 go_cut [7]from 15 to 18 (fun s7 wx => ∃(g cap:Nat) (aO:List Value),s7=Zl (some ⟨g,0,none⟩) n cap∧Hid (n≤cap∧cap≤maxLen∧aO.length=(cap-n)*8)∧Hid (Locs w wx [(gs,36,[Zl t1a n t1c,Z O aA,Z O aB,Z O aC,Z O aD,Z O aE,Z O aF,Z O aG,Z O aH,Z O aI,Z O aJ,Z O aK,Z O aL]),(gd,55,[Z O 1,Z O day,Zs code,Zs aM,Z O al,Z O ah,Z O bl,Z O bh]),(ge,36,[Zl none 0 0,Z O 0,Z O 0,Z O 0,Z O 0,Z O 0,Z O 0,Z O 0,Z O 0,Z O 0,Z O 0,Z O 0,Z O 0]),(g,49,flat rowCells aN++aO)] []))
 case first =>
  obtain⟨i1_,hi1,hi1a,hi1b,hi1c⟩:=info_parts info_stack
  have HI1:=Zh hi1;have HI1a:=Zh hi1a;have HI1b:=Zh hi1b;have HI1c:=Zh hi1c
  have HFL:=Zh (p:=(flat rowCells aN).length=n*8) (by rw [flat_length row_eight,HN.out])
  have HFO':=Zh (p:=∀ u ∈ flat rowCells aN,u.oneCell'=true) (row_onesS HFS.out)
  have HOWN1:=Zh (owns_emptyS w1)
  have HSZ1:=Zh (p:=w1.heap.size≤(w1.alloc (.cells #[] 49)).heap.size) (by rw [World.size_alloc];omega)
  have HLa:=Zh (HL0.out.below ((Below.refl w1.heap.size w1).alloc (Nat.le_refl _) (.cells #[] 49)))
  have HLT:=Zh (p:=∀ x ∈ ([(gs,36,[Zl t1a n t1c,Z O aA,Z O aB,Z O aC,Z O aD,Z O aE,Z O aF,Z O aG,Z O aH,Z O aI,Z O aJ,Z O aK,Z O aL]),(gd,55,[Z O 1,Z O day,Zs code,Zs aM,Z O al,Z O ah,Z O bl,Z O bh]),(ge,36,[Zl none 0 0,Z O 0,Z O 0,Z O 0,Z O 0,Z O 0,Z O 0,Z O 0,Z O 0,Z O 0,Z O 0,Z O 0,Z O 0])]:List (Nat × TypeId × List Value)),x.1<w1.heap.size) (fun x hx=>(HL0.out.loc x hx).1.lt)
  have r0:=HLa.out.at 0 0 (v:=Zl t1a n t1c) rfl rfl
  clear hi1 hi1a hi1b hi1c
  obtain⟨_,⟨hv0,hn0⟩ | ⟨b,bcap,bcur,hv,hbb,hbl,hbc,hbm,hbs,hbt⟩⟩:=HTH.out
  ·injection hv0 with e1 e2 e3
   subst e1 e2 e3
   have HR0:=Zh (p:=aN = []) (List.length_eq_zero_iff.1 HN.out.symm)
   go_wp2_with (at_builtin;refine wpList_append_own_none rfl (.tmp 15) (.tmp 17) 30 rfl w1.heap.size 49 i1_ 8 Try.underlying30 HI1.out _ _ _ rfl HOWN1.out rfl ?_)
   go_meet
   case rel =>
    refine⟨w1.heap.size,0,[],rfl,Zh ⟨Nat.le_refl _,by unfold maxLen;omega,rfl⟩,Zh ?_⟩
    rw [HR0.out]
    exact HL0.out.alloc 49 [] rfl
  ·injection hv with e1 e2 e3
   subst e1 e3
   clear e2
   have HHD6:=Zh (show ∀ j u,(flat rowCells aN)[j]? = some u→(w1.alloc (.cells #[] 49)).cell? ((⟨b,0,none⟩:Addr).add j)=some u from fun j u hu=>by
    have hb3:=((HST.out _ HLa.out.low).things)
    rw [← HN.out]at hb3
    obtain⟨g',cap',cur',hv',hb',hc',_,hs',ht'⟩:=row_block hb3 (by
     rcases Nat.eq_zero_or_pos n with h0 | h0
     ·have:=(List.getElem?_eq_some_iff.1 hu).1
      rw [HFL.out,h0]at this
      omega
     ·exact h0)
    injection hv' with e1 _ _
    injection e1 with e1
    injection e1 with e1
    subst e1
    rw [addr_add,hb'.cell,← Array.getElem?_toList]
    rw [flat_rows,← ht',List.getElem?_take]at hu
    split at hu
    ·exact hu
    ·cases hu)
   clear hbb hbl hbc hbm hbs hbt
   go_wp2_with (at_builtin;refine wpList_append_own _ rfl (.tmp 15) (.tmp 17) 30 rfl w1.heap.size 49 i1_ (.agg #[Zs ⟨#[]⟩,Z O 0,Z O 0,Z O 0,Z O 0,Z O 0,Z O 0,Zl none 0 0]) 8 88 Try.underlying30 HI1.out HI1a.out HI1b.out HI1c.out rfl (by decide) _ _ _ rfl HOWN1.out ⟨b,0,none⟩ n t1c (flat rowCells aN) rfl HFL.out HHD6.out HFO'.out (by unfold maxLen;omega) (by omega) HSZ1.out ?_;intro v7 w7 hown7 hgrow7 hnil7;have hne7:v7≠Zl none 0 0:=(fun hh=>(by have:=(hnil7.1 hh).1;cases this));simp only [Nat.zero_add,List.nil_append]at hown7;obtain⟨g,cap,cur,hv7,hcur,hcap,hcapm,hgw,hcs7,hgtake⟩:=row_blockS hown7 hne7;subst hv7;have hbel7:Below w1.heap.size (w1.alloc (.cells #[] 49)) w7:=(Below.refl _ _).grown hgrow7 HSZ1.out (fun k e=>(by cases e;exact Nat.le_refl _));have HL7:=Zh (HLa.out.belowAt hbel7 HL0.out.low.size HLT.out);have HCUR:=Zh hcur;have HCAP:=Zh (And.intro hcap (And.intro hcapm (And.intro hgw (And.intro hcs7 hgtake))));clear hown7 hgrow7 hnil7 hne7 hcur hcap hcapm hgw hcs7 hgtake hbel7)
   go_meet
   case rel =>
    have e:cur=(flat rowCells aN++cur.toList.drop (n*8)).toArray:=by rw [← HCAP.out.2.2.2.2,List.take_append_drop,Array.toArray_toList]
    refine⟨g,cap,cur.toList.drop (n*8),rfl,Zh ⟨HCAP.out.1,HCAP.out.2.1,by rw [List.length_drop,Array.length_toList,HCAP.out.2.2.2.1];omega⟩,Zh ?_⟩
    refine HL7.out.adopt ?_ (Nat.le_trans HL0.out.low.size HCAP.out.2.2.1) (fun x hx=>?_)
    ·rw [← e]
     exact HCUR.out
    ·have h1:=HCAP.out.2.2.1
     have h2:=HLT.out x hx
     omega
 case rest =>
  obtain⟨g,cap,aO,rfl,HCAP,HL1⟩:=hcut
  clear HL0
  have s0:=HL1.out.at 0 1 (v:=Z O aA) rfl rfl
  have s1:=HL1.out.at 0 2 (v:=Z O aB) rfl rfl
  have s2:=HL1.out.at 0 3 (v:=Z O aC) rfl rfl
  have s3:=HL1.out.at 0 4 (v:=Z O aD) rfl rfl
  have s4:=HL1.out.at 0 5 (v:=Z O aE) rfl rfl
  have s5:=HL1.out.at 0 6 (v:=Z O aF) rfl rfl
  have s6:=HL1.out.at 0 7 (v:=Z O aG) rfl rfl
  have s7:=HL1.out.at 0 8 (v:=Z O aH) rfl rfl
  have s8:=HL1.out.at 0 9 (v:=Z O aI) rfl rfl
  have s9:=HL1.out.at 0 10 (v:=Z O aJ) rfl rfl
  have s10:=HL1.out.at 0 11 (v:=Z O aK) rfl rfl
  have s11:=HL1.out.at 0 12 (v:=Z O aL) rfl rfl
  go_upto_region 3 with(((with_reducible refine at_store 34 (.tmp 8) (.tmp 20) ?_);go_must (refine Zw rfl 34 (.tmp 8) (.tmp 20) rfl wc.heap.size 0 _ rfl rfl ((Blk.new wc 34 #[Z O 0,Z O 0,Z O 0,Z O 0,Z O 0,Z O 0,Z O 0,Z O 0,Z O 0,Z O 0,Z O 0,Z O 0]).there (o:=0) (n:=12) (Zn rfl)) size_account (by simp [Value.oneCell']) ?_)))
  clear s0 s1 s2 s3 s4 s5 s6 s7 s8 s9 s10 s11
  have HL2:=Zh (p:=Locs w ((wc.alloc (.cells #[Z O 0,Z O 0,Z O 0,Z O 0,Z O 0,Z O 0,Z O 0,Z O 0,Z O 0,Z O 0,Z O 0,Z O 0] 34)).setCells wc.heap.size 0 [Z O aA,Z O aB,Z O aC,Z O aD,Z O aE,Z O aF,Z O aG,Z O aH,Z O aI,Z O aJ,Z O aK,Z O aL]) [(gs,36,[Zl t1a n t1c,Z O aA,Z O aB,Z O aC,Z O aD,Z O aE,Z O aF,Z O aG,Z O aH,Z O aI,Z O aJ,Z O aK,Z O aL]),(gd,55,[Z O 1,Z O day,Zs code,Zs aM,Z O al,Z O ah,Z O bl,Z O bh]),(ge,36,[Zl none 0 0,Z O 0,Z O 0,Z O 0,Z O 0,Z O 0,Z O 0,Z O 0,Z O 0,Z O 0,Z O 0,Z O 0,Z O 0]),(g,49,flat rowCells aN++aO),(wc.heap.size,34,[Z O aA,Z O aB,Z O aC,Z O aD,Z O aE,Z O aF,Z O aG,Z O aH,Z O aI,Z O aJ,Z O aK,Z O aL])] []) ((HL1.out.alloc 34 [Z O 0,Z O 0,Z O 0,Z O 0,Z O 0,Z O 0,Z O 0,Z O 0,Z O 0,Z O 0,Z O 0,Z O 0] rfl).setLoc 4 [] [Z O 0,Z O 0,Z O 0,Z O 0,Z O 0,Z O 0,Z O 0,Z O 0,Z O 0,Z O 0,Z O 0,Z O 0] [] [Z O aA,Z O aB,Z O aC,Z O aD,Z O aE,Z O aF,Z O aG,Z O aH,Z O aI,Z O aJ,Z O aK,Z O aL] rfl rfl)
  clear HL1
  generalize((wc.alloc (.cells #[Z O 0,Z O 0,Z O 0,Z O 0,Z O 0,Z O 0,Z O 0,Z O 0,Z O 0,Z O 0,Z O 0,Z O 0] 34)).setCells wc.heap.size 0 [Z O aA,Z O aB,Z O aC,Z O aD,Z O aE,Z O aF,Z O aG,Z O aH,Z O aI,Z O aJ,Z O aK,Z O aL])=v1 at HL2 ⊢
  generalize wc.heap.size=ga at HL2 ⊢
  try simp only [Act.put]
  obtain⟨ki,hki⟩:∃ x,x=rxInt aN code:=⟨_,rfl⟩
  obtain⟨oi,hoi⟩:∃ x,x=rxInt aN aM:=⟨_,rfl⟩
  have HKI:=Zh hki;have HOI:=Zh hoi
  clear hki hoi
  have HRW:=Zh (show v1.ownsRow w.heap.size 49 8 (Zl (some ⟨g,0,none⟩) n cap) aN.length (rowsCells aN)from by
   have h1:=(rowed_ofS (L:=[(gs,36,[Zl t1a n t1c,Z O aA,Z O aB,Z O aC,Z O aD,Z O aE,Z O aF,Z O aG,Z O aH,Z O aI,Z O aJ,Z O aK,Z O aL]),(gd,55,[Z O 1,Z O day,Zs code,Zs aM,Z O al,Z O ah,Z O bl,Z O bh]),(ge,36,[Zl none 0 0,Z O 0,Z O 0,Z O 0,Z O 0,Z O 0,Z O 0,Z O 0,Z O 0,Z O 0,Z O 0,Z O 0,Z O 0])]) (HL2.out.fewer (List.sublist_append_left ([(gs,36,[Zl t1a n t1c,Z O aA,Z O aB,Z O aC,Z O aD,Z O aE,Z O aF,Z O aG,Z O aH,Z O aI,Z O aJ,Z O aK,Z O aL]),(gd,55,[Z O 1,Z O day,Zs code,Zs aM,Z O al,Z O ah,Z O bl,Z O bh]),(ge,36,[Zl none 0 0,Z O 0,Z O 0,Z O 0,Z O 0,Z O 0,Z O 0,Z O 0,Z O 0,Z O 0,Z O 0,Z O 0,Z O 0]),(g,49,flat rowCells aN++aO)]:List (Nat × TypeId × List Value)) _) (List.Sublist.refl _)) HN.out.symm HCAP.out).own
   rw [flat_rows]at h1
   rw [← HN.out]
   exact h1)
  have m0:∀ d os,Calls Try.prog 68 #[Zl (some ⟨g,0,none⟩) n cap,Zs code] (Go.Sort.grow (redrawn v1 d) os) fun e w''=>e=.returned (Z O ki)∧∃ p:Regrown,w''=Go.Sort.grow (redrawn v1 p.d) p.os:=fun d os=>Calls.regrown_of (by rw [HKI.out];exact rat_calls _ aN code _ (row_same HRW.out (fun g' hg=>(Zk v1 d os).block g' (row_lt HRW.out hg))) (by rw [← HN.out];omega))
  have m1:∀ d os,Calls Try.prog 68 #[Zl (some ⟨g,0,none⟩) n cap,Zs aM] (Go.Sort.grow (redrawn v1 d) os) fun e w''=>e=.returned (Z O oi)∧∃ p:Regrown,w''=Go.Sort.grow (redrawn v1 p.d) p.os:=fun d os=>Calls.regrown_of (by rw [HOI.out];exact rat_calls _ aN aM _ (row_same HRW.out (fun g' hg=>(Zk v1 d os).block g' (row_lt HRW.out hg))) (by rw [← HN.out];omega))
  have q0:=Zg (HL2.out.at 1 2 (v:=Zs code) rfl rfl)
  have q1:=Zg (HL2.out.at 1 3 (v:=Zs aM) rfl rfl)
  refine wp_region_quiet_below (by kernel_rfl) (by kernel_rfl) ?_
  repeat(go_big_quiet_step (first|(with_reducible exact m0 _ _)|(with_reducible exact m1 _ _)))
  refine wpQuiet_nil ?_
  intro wq hw'
  have hb8:Below v1.heap.size v1 wq:=by obtain⟨⟨dq,osq⟩,hw''⟩:=hw';rw [hw''];exact Zk _ dq osq
  clear hw' q0 q1 m0 m1 HRW
  have HL3:=Zh (HL2.out.below hb8)
  clear hb8 HL2
  generalize wq=v2 at HL3 ⊢
  have HNEW:=Zh hnew;have H8:=Zh h8
  clear hnew h8
  have f0:=HL3.out.at 1 0 (v:=Z O 1) rfl rfl
  have f1:=HL3.out.at 1 1 (v:=Z O day) rfl rfl
  have f2:=HL3.out.at 1 2 (v:=Zs code) rfl rfl
  have f3:=HL3.out.at 1 4 (v:=Z O al) rfl rfl
  have f4:=HL3.out.at 1 5 (v:=Z O ah) rfl rfl
  have f5:=HL3.out.at 1 6 (v:=Z O bl) rfl rfl
  have f6:=HL3.out.at 1 7 (v:=Z O bh) rfl rfl
  have HL4:=Zh (p:=Locs w (v2.alloc (.cells #[Z O (i:Int)] 3)) [(gs,36,[Zl t1a n t1c,Z O aA,Z O aB,Z O aC,Z O aD,Z O aE,Z O aF,Z O aG,Z O aH,Z O aI,Z O aJ,Z O aK,Z O aL]),(gd,55,[Z O 1,Z O day,Zs code,Zs aM,Z O al,Z O ah,Z O bl,Z O bh]),(ge,36,[Zl none 0 0,Z O 0,Z O 0,Z O 0,Z O 0,Z O 0,Z O 0,Z O 0,Z O 0,Z O 0,Z O 0,Z O 0,Z O 0]),(g,49,flat rowCells aN++aO),(ga,34,[Z O aA,Z O aB,Z O aC,Z O aD,Z O aE,Z O aF,Z O aG,Z O aH,Z O aI,Z O aJ,Z O aK,Z O aL]),(v2.heap.size,3,[Z O (i:Int)])] []) (HL3.out.alloc 3 [Z O (i:Int)] rfl)
  have HLp:=Zh (p:=Locs w (v2.alloc (.cells #[Z O (i:Int)] 3)) [(gs,36,[Zl t1a n t1c,Z O aA,Z O aB,Z O aC,Z O aD,Z O aE,Z O aF,Z O aG,Z O aH,Z O aI,Z O aJ,Z O aK,Z O aL]),(gd,55,[Z O 1,Z O day,Zs code,Zs aM,Z O al,Z O ah,Z O bl,Z O bh]),(ge,36,[Zl none 0 0,Z O 0,Z O 0,Z O 0,Z O 0,Z O 0,Z O 0,Z O 0,Z O 0,Z O 0,Z O 0,Z O 0,Z O 0]),(ga,34,[Z O aA,Z O aB,Z O aC,Z O aD,Z O aE,Z O aF,Z O aG,Z O aH,Z O aI,Z O aJ,Z O aK,Z O aL]),(v2.heap.size,3,[Z O (i:Int)]),(g,49,flat rowCells aN++aO)] []) (HL4.out.perm (perm_row2 _ _ _ _ _ _))
  clear HL4
  obtain⟨i1_,hi1,hi1a,hi1b,hi1c⟩:=info_parts info_stack
  have HI1:=Zh hi1;have HI1a:=Zh hi1a;have HI1b:=Zh hi1b;have HI1c:=Zh hi1c
  have HA1:=Zh (show n+1≤maxLen∧(n+1)*88≤140737488355328 by unfold maxLen;omega)
  clear hi1 hi1a hi1b hi1c
  have HRa:=Zh (p:=Rowed w ((v2.alloc (.cells #[Z O (i:Int)] 3)).alloc (.cells #[Zs code,Z O al,Z O ah,Z O bl,Z O bh,Z O day,Z O (-1),Zl (some ⟨v2.heap.size,0,none⟩) 1 1] 49)) ([(gs,36,[Zl t1a n t1c,Z O aA,Z O aB,Z O aC,Z O aD,Z O aE,Z O aF,Z O aG,Z O aH,Z O aI,Z O aJ,Z O aK,Z O aL]),(gd,55,[Z O 1,Z O day,Zs code,Zs aM,Z O al,Z O ah,Z O bl,Z O bh]),(ge,36,[Zl none 0 0,Z O 0,Z O 0,Z O 0,Z O 0,Z O 0,Z O 0,Z O 0,Z O 0,Z O 0,Z O 0,Z O 0,Z O 0]),(ga,34,[Z O aA,Z O aB,Z O aC,Z O aD,Z O aE,Z O aF,Z O aG,Z O aH,Z O aI,Z O aJ,Z O aK,Z O aL]),(v2.heap.size,3,[Z O (i:Int)]),((v2.alloc (.cells #[Z O (i:Int)] 3)).heap.size,49,[Zs code,Z O al,Z O ah,Z O bl,Z O bh,Z O day,Z O (-1),Zl (some ⟨v2.heap.size,0,none⟩) 1 1])]:List (Nat × TypeId × List Value)) 49 8 (Zl (some ⟨g,0,none⟩) n cap) (n) (flat rowCells aN)) ((rowed_ofS (L:=[(gs,36,[Zl t1a n t1c,Z O aA,Z O aB,Z O aC,Z O aD,Z O aE,Z O aF,Z O aG,Z O aH,Z O aI,Z O aJ,Z O aK,Z O aL]),(gd,55,[Z O 1,Z O day,Zs code,Zs aM,Z O al,Z O ah,Z O bl,Z O bh]),(ge,36,[Zl none 0 0,Z O 0,Z O 0,Z O 0,Z O 0,Z O 0,Z O 0,Z O 0,Z O 0,Z O 0,Z O 0,Z O 0,Z O 0]),(ga,34,[Z O aA,Z O aB,Z O aC,Z O aD,Z O aE,Z O aF,Z O aG,Z O aH,Z O aI,Z O aJ,Z O aK,Z O aL]),(v2.heap.size,3,[Z O (i:Int)])]) HLp.out HN.out.symm HCAP.out).alloc 49 [Zs code,Z O al,Z O ah,Z O bl,Z O bh,Z O day,Z O (-1),Zl (some ⟨v2.heap.size,0,none⟩) 1 1] rfl)
  have HLa:=Zh (p:=Locs w ((v2.alloc (.cells #[Z O (i:Int)] 3)).alloc (.cells #[Zs code,Z O al,Z O ah,Z O bl,Z O bh,Z O day,Z O (-1),Zl (some ⟨v2.heap.size,0,none⟩) 1 1] 49)) [(gs,36,[Zl t1a n t1c,Z O aA,Z O aB,Z O aC,Z O aD,Z O aE,Z O aF,Z O aG,Z O aH,Z O aI,Z O aJ,Z O aK,Z O aL]),(gd,55,[Z O 1,Z O day,Zs code,Zs aM,Z O al,Z O ah,Z O bl,Z O bh]),(ge,36,[Zl none 0 0,Z O 0,Z O 0,Z O 0,Z O 0,Z O 0,Z O 0,Z O 0,Z O 0,Z O 0,Z O 0,Z O 0,Z O 0]),(ga,34,[Z O aA,Z O aB,Z O aC,Z O aD,Z O aE,Z O aF,Z O aG,Z O aH,Z O aI,Z O aJ,Z O aK,Z O aL]),(v2.heap.size,3,[Z O (i:Int)]),((v2.alloc (.cells #[Z O (i:Int)] 3)).heap.size,49,[Zs code,Z O al,Z O ah,Z O bl,Z O bh,Z O day,Z O (-1),Zl (some ⟨v2.heap.size,0,none⟩) 1 1])] []) ((HLp.out.fewer (List.sublist_append_left ([(gs,36,[Zl t1a n t1c,Z O aA,Z O aB,Z O aC,Z O aD,Z O aE,Z O aF,Z O aG,Z O aH,Z O aI,Z O aJ,Z O aK,Z O aL]),(gd,55,[Z O 1,Z O day,Zs code,Zs aM,Z O al,Z O ah,Z O bl,Z O bh]),(ge,36,[Zl none 0 0,Z O 0,Z O 0,Z O 0,Z O 0,Z O 0,Z O 0,Z O 0,Z O 0,Z O 0,Z O 0,Z O 0,Z O 0]),(ga,34,[Z O aA,Z O aB,Z O aC,Z O aD,Z O aE,Z O aF,Z O aG,Z O aH,Z O aI,Z O aJ,Z O aK,Z O aL]),(v2.heap.size,3,[Z O (i:Int)])]:List (Nat × TypeId × List Value)) _) (List.Sublist.refl _)).alloc 49 [Zs code,Z O al,Z O ah,Z O bl,Z O bh,Z O day,Z O (-1),Zl (some ⟨v2.heap.size,0,none⟩) 1 1] rfl)
  clear HLp
  have HNEWS:=Zh (by have h:=World.news_of_block (heap_alloc_new (v2.alloc (.cells #[Z O (i:Int)] 3)) (.cells #[Zs code,Z O al,Z O ah,Z O bl,Z O bh,Z O day,Z O (-1),Zl (some ⟨v2.heap.size,0,none⟩) 1 1] 49));rw [World.size_alloc]at h;exact h)
  go_upto_region 6 with(at_builtin;refine wpList_append_lies _ rfl (.tmp 32) (.tmp 44) 30 rfl w.heap.size 49 i1_ (.agg #[Zs ⟨#[]⟩,Z O 0,Z O 0,Z O 0,Z O 0,Z O 0,Z O 0,Zl none 0 0]) 8 88 Try.underlying30 HI1.out HI1a.out HI1b.out HI1c.out rfl (by decide) (Zl (some ⟨g,0,none⟩) n cap) n (flat rowCells aN) rfl HRa.out.own ⟨v2.heap.size+1,0,none⟩ 1 1 [Zs code,Z O al,Z O ah,Z O bl,Z O bh,Z O day,Z O (-1),Zl (some ⟨v2.heap.size,0,none⟩) 1 1] rfl rfl HNEWS.out (by simp [Value.oneCell']) (by decide) HA1.out.1 HA1.out.2 HLa.out.low.size ((v2.alloc (.cells #[Z O (i:Int)] 3)).heap.size+1) (World.size_alloc _ _) ?_;intro g7 cap7 w7 hown7 hg7 hat7 hlt7;have HL7:=Zh (p:=Locs w w7 [(gs,36,[Zl t1a n t1c,Z O aA,Z O aB,Z O aC,Z O aD,Z O aE,Z O aF,Z O aG,Z O aH,Z O aI,Z O aJ,Z O aK,Z O aL]),(gd,55,[Z O 1,Z O day,Zs code,Zs aM,Z O al,Z O ah,Z O bl,Z O bh]),(ge,36,[Zl none 0 0,Z O 0,Z O 0,Z O 0,Z O 0,Z O 0,Z O 0,Z O 0,Z O 0,Z O 0,Z O 0,Z O 0,Z O 0]),(ga,34,[Z O aA,Z O aB,Z O aC,Z O aD,Z O aE,Z O aF,Z O aG,Z O aH,Z O aI,Z O aJ,Z O aK,Z O aL]),(v2.heap.size,3,[Z O (i:Int)])] []) ((HLa.out.appended HRa.out hg7).fewer (List.sublist_append_left ([(gs,36,[Zl t1a n t1c,Z O aA,Z O aB,Z O aC,Z O aD,Z O aE,Z O aF,Z O aG,Z O aH,Z O aI,Z O aJ,Z O aK,Z O aL]),(gd,55,[Z O 1,Z O day,Zs code,Zs aM,Z O al,Z O ah,Z O bl,Z O bh]),(ge,36,[Zl none 0 0,Z O 0,Z O 0,Z O 0,Z O 0,Z O 0,Z O 0,Z O 0,Z O 0,Z O 0,Z O 0,Z O 0,Z O 0]),(ga,34,[Z O aA,Z O aB,Z O aC,Z O aD,Z O aE,Z O aF,Z O aG,Z O aH,Z O aI,Z O aJ,Z O aK,Z O aL]),(v2.heap.size,3,[Z O (i:Int)])]:List (Nat × TypeId × List Value)) _) (List.Sublist.refl _));have HR7:=Zh ((Rowed.appended HLa.out HRa.out hown7 (by rw [World.size_alloc];exact hat7)).fewer (List.sublist_append_left ([(gs,36,[Zl t1a n t1c,Z O aA,Z O aB,Z O aC,Z O aD,Z O aE,Z O aF,Z O aG,Z O aH,Z O aI,Z O aJ,Z O aK,Z O aL]),(gd,55,[Z O 1,Z O day,Zs code,Zs aM,Z O al,Z O ah,Z O bl,Z O bh]),(ge,36,[Zl none 0 0,Z O 0,Z O 0,Z O 0,Z O 0,Z O 0,Z O 0,Z O 0,Z O 0,Z O 0,Z O 0,Z O 0,Z O 0]),(ga,34,[Z O aA,Z O aB,Z O aC,Z O aD,Z O aE,Z O aF,Z O aG,Z O aH,Z O aI,Z O aJ,Z O aK,Z O aL]),(v2.heap.size,3,[Z O (i:Int)])]:List (Nat × TypeId × List Value)) _));clear hown7 hg7 hat7 hlt7)
  clear f0 f1 f2 f3 f4 f5 f6 HL3
  have e5:flat rowCells aN++[Zs code,Z O al,Z O ah,Z O bl,Z O bh,Z O day,Z O (-1),Zl (some ⟨v2.heap.size,0,none⟩) 1 1]=flat rowCells (aN++[(⟨code,⟨al,ah⟩,⟨bl,bh⟩,day,-1,[(i:Int)]⟩,Value.slice (some ⟨v2.heap.size,0,none⟩) 1 1)]):=by rw [flat_append,flat_cons,flat_nil,List.append_nil];rfl
  have HR8:=HR7.out
  rw [e5]at HR8
  have hn5:n+1=(aN++[((⟨code,⟨al,ah⟩,⟨bl,bh⟩,day,-1,[(i:Int)]⟩,Value.slice (some ⟨v2.heap.size,0,none⟩) 1 1):SRow)]).length:=by rw [List.length_append,← HN.out];rfl
  clear e5
  obtain⟨l5,hL5⟩:∃ l5,l5=aN++[((⟨code,⟨al,ah⟩,⟨bl,bh⟩,day,-1,[(i:Int)]⟩,Value.slice (some ⟨v2.heap.size,0,none⟩) 1 1):SRow)]:=⟨_,rfl⟩
  rw [← hL5]at HR8 hn5
  have HL5:=Zh hL5
  clear hL5
  generalize hm5:n+1=n5 at HL7 HR8 hn5 ⊢
  have hm6:n<n5:=by omega
  have hl5:n5≤21:=by omega
  clear hm5
  obtain⟨spare5,hcap5,hl8⟩:=row_adoptS HL7.out HR8
  have HCAP5:=Zh hcap5;have HN5:=Zh hn5
  have HL99:=Zh hl8
  clear HL7 HR8 HR7 HLa HRa hcap5 hn5 hl8
  have HL99:=Zh (p:=Locs w w7 [(gs,36,[Zl t1a n t1c,Z O aA,Z O aB,Z O aC,Z O aD,Z O aE,Z O aF,Z O aG,Z O aH,Z O aI,Z O aJ,Z O aK,Z O aL]),(gd,55,[Z O 1,Z O day,Zs code,Zs aM,Z O al,Z O ah,Z O bl,Z O bh]),(ge,36,[Zl none 0 0,Z O 0,Z O 0,Z O 0,Z O 0,Z O 0,Z O 0,Z O 0,Z O 0,Z O 0,Z O 0,Z O 0,Z O 0]),(ga,34,[Z O aA,Z O aB,Z O aC,Z O aD,Z O aE,Z O aF,Z O aG,Z O aH,Z O aI,Z O aJ,Z O aK,Z O aL]),(v2.heap.size,3,[Z O (i:Int)]),(g7,49,flat rowCells l5++spare5)] []) (HL99.out)
  have HGI:=Zh (rfl:v2.heap.size=v2.heap.size)
  have s0:=HL99.out.at 3 0 (v:=Z O aA) rfl rfl
  have s1:=HL99.out.at 3 1 (v:=Z O aB) rfl rfl
  have s2:=HL99.out.at 3 2 (v:=Z O aC) rfl rfl
  have s3:=HL99.out.at 3 3 (v:=Z O aD) rfl rfl
  have s4:=HL99.out.at 3 4 (v:=Z O aE) rfl rfl
  have s5:=HL99.out.at 3 5 (v:=Z O aF) rfl rfl
  have s6:=HL99.out.at 3 6 (v:=Z O aG) rfl rfl
  have s7:=HL99.out.at 3 7 (v:=Z O aH) rfl rfl
  have s8:=HL99.out.at 3 8 (v:=Z O aI) rfl rfl
  have s9:=HL99.out.at 3 9 (v:=Z O aJ) rfl rfl
  have s10:=HL99.out.at 3 10 (v:=Z O aK) rfl rfl
  have s11:=HL99.out.at 3 11 (v:=Z O aL) rfl rfl
  go_wp2_with ((with_reducible refine at_store 36 (.tmp 6) (.tmp 48) ?_);go_must (refine Zw rfl 36 (.tmp 6) (.tmp 48) rfl ge 0 _ rfl rfl (HL99.out.there 2 (o:=0) (n:=13) rfl (Zn rfl)) size_standing (by simp [Value.oneCell']) ?_))
  clear s0 s1 s2 s3 s4 s5 s6 s7 s8 s9 s10 s11
  have HLf:=Zh (p:=Locs w (w7.setCells ge 0 [Zl (some ⟨g7,0,none⟩) n5 cap7,Z O aA,Z O aB,Z O aC,Z O aD,Z O aE,Z O aF,Z O aG,Z O aH,Z O aI,Z O aJ,Z O aK,Z O aL]) [(gs,36,[Zl t1a n t1c,Z O aA,Z O aB,Z O aC,Z O aD,Z O aE,Z O aF,Z O aG,Z O aH,Z O aI,Z O aJ,Z O aK,Z O aL]),(gd,55,[Z O 1,Z O day,Zs code,Zs aM,Z O al,Z O ah,Z O bl,Z O bh]),(ge,36,[Zl (some ⟨g7,0,none⟩) n5 cap7,Z O aA,Z O aB,Z O aC,Z O aD,Z O aE,Z O aF,Z O aG,Z O aH,Z O aI,Z O aJ,Z O aK,Z O aL]),(ga,34,[Z O aA,Z O aB,Z O aC,Z O aD,Z O aE,Z O aF,Z O aG,Z O aH,Z O aI,Z O aJ,Z O aK,Z O aL]),(v2.heap.size,3,[Z O (i:Int)]),(g7,49,flat rowCells l5++spare5)] []) (HL99.out.put 2 0 _ rfl)
  have r0:=HLf.out.at 2 0 (v:=Zl (some ⟨g7,0,none⟩) n5 cap7) rfl rfl
  have r1:=HLf.out.at 2 1 (v:=Z O aA) rfl rfl
  have r2:=HLf.out.at 2 2 (v:=Z O aB) rfl rfl
  have r3:=HLf.out.at 2 3 (v:=Z O aC) rfl rfl
  have r4:=HLf.out.at 2 4 (v:=Z O aD) rfl rfl
  have r5:=HLf.out.at 2 5 (v:=Z O aE) rfl rfl
  have r6:=HLf.out.at 2 6 (v:=Z O aF) rfl rfl
  have r7:=HLf.out.at 2 7 (v:=Z O aG) rfl rfl
  have r8:=HLf.out.at 2 8 (v:=Z O aH) rfl rfl
  have r9:=HLf.out.at 2 9 (v:=Z O aI) rfl rfl
  have r10:=HLf.out.at 2 10 (v:=Z O aJ) rfl rfl
  have r11:=HLf.out.at 2 11 (v:=Z O aK) rfl rfl
  have r12:=HLf.out.at 2 12 (v:=Z O aL) rfl rfl
  refine bodyPost_ret (v:=.agg #[Zl (some ⟨g7,0,none⟩) n5 cap7,Z O aA,Z O aB,Z O aC,Z O aD,Z O aE,Z O aF,Z O aG,Z O aH,Z O aI,Z O aJ,Z O aK,Z O aL]) (by simp [results,Try.results52,go_sem,r0,r1,r2,r3,r4,r5,r6,r7,r8,r9,r10,r11,r12]) rfl ?_
  have HRg:=(rowed_ofS (L:=[(gs,36,[Zl t1a n t1c,Z O aA,Z O aB,Z O aC,Z O aD,Z O aE,Z O aF,Z O aG,Z O aH,Z O aI,Z O aJ,Z O aK,Z O aL]),(gd,55,[Z O 1,Z O day,Zs code,Zs aM,Z O al,Z O ah,Z O bl,Z O bh]),(ge,36,[Zl (some ⟨g7,0,none⟩) n5 cap7,Z O aA,Z O aB,Z O aC,Z O aD,Z O aE,Z O aF,Z O aG,Z O aH,Z O aI,Z O aJ,Z O aK,Z O aL]),(ga,34,[Z O aA,Z O aB,Z O aC,Z O aD,Z O aE,Z O aF,Z O aG,Z O aH,Z O aI,Z O aJ,Z O aK,Z O aL]),(v2.heap.size,3,[Z O (i:Int)])]) HLf.out HN5.out.symm HCAP5.out).own
  rw [flat_rows]at HRg
  have hL5:=HL5.out
  refine⟨l5,Zl (some ⟨g7,0,none⟩) n5 cap7,(⟨⟨aA,aB⟩,⟨aC,aD⟩,⟨aE,aF⟩,⟨aG,aH⟩,⟨aI,aJ⟩,⟨aK,aL⟩⟩:Yd.Acc),rfl,HLf.out.low,?_,?_⟩
  ·have h3:=owns_lowerS HRg (Nat.zero_le _)
   have hn5:=HN5.out
   subst hL5
   refine stands_push HSTW.out HLf.out.low ⟨⟨rfl,.inr ⟨_,1,_,rfl,Nat.zero_le _,HLf.out.blk 4 rfl,Nat.le_refl _,by unfold maxLen;omega,rfl,rfl⟩⟩,by simp⟩ HNEW.out HSZ.out.1 H8.out ?_
   rw [← hn5]
   exact h3
  ·rw [hL5,deed_pile (d:=(⟨1,day,code,aM,⟨al,ah⟩,⟨bl,bh⟩⟩:Deed Code)) (Value.slice (some ⟨v2.heap.size,0,none⟩) 1 1) (i:Int) rfl]
   rfl
theorem at_new {aB:List SRow}{c:Code}(h:¬ at_ (aB.map (·.1)) c<aB.length):∀ r ∈ aB,r.1.code≠c:=by
 intro r hr hc
 refine h ?_
 unfold at_
 have h1:=List.findIdx_lt_length_of_exists (xs:=aB.map (·.1)) (p:=fun x=>decide (x.code=c)) ⟨r.1,List.mem_map.2 ⟨r,hr,rfl⟩,by simpa using hc⟩
 rwa [List.length_map]at h1
theorem fault_ok {be af:Int}{aB:List SRow}{acc:Yd.Acc}{d:Deed Code}(f0:Yd.fault be af (stOf aB acc) d=0) :
  (d.kind=1→¬ at_ (aB.map (·.1)) d.stack<aB.length∧aB.length<8)∧(d.kind≠1→at_ (aB.map (·.1)) d.stack<aB.length)∧(d.kind=5→¬ at_ (aB.map (·.1)) d.other<aB.length∧aB.length<8)∧(d.kind=6→at_ (aB.map (·.1)) d.other<aB.length):=by
 unfold Yd.fault at f0
 split at f0
 ·cases f0
 rename_i h1
 split at f0
 ·cases f0
 rename_i h2
 simp only [stOf,List.length_map,not_or]at h1 h2
 obtain⟨a1,a2,a3,a4⟩:=h1
 refine⟨fun hk=>⟨fun h=>?_,?_⟩,fun hk=>?_,fun hk=>⟨fun h=>a3 ⟨hk,h⟩,?_⟩,fun hk=>?_⟩
 ·exact a1 (by rw [decide_eq_true h,decide_eq_true hk])
 ·rcases Nat.lt_or_ge aB.length 8 with h | h
  ·exact h
  ·exact absurd ⟨.inl hk,h⟩ h2
 ·rcases Decidable.em (at_ (aB.map (·.1)) d.stack<aB.length)with h | h
  ·exact h
  ·exact absurd (by rw [decide_eq_false h,decide_eq_false hk]) a1
 ·rcases Nat.lt_or_ge aB.length 8 with h | h
  ·exact h
  ·exact absurd ⟨.inr hk,h⟩ h2
 ·rcases Decidable.em (at_ (aB.map (·.1)) d.other<aB.length)with h | h
  ·exact h
  ·exact absurd ⟨hk,h⟩ a4
theorem rdeed_calls {be af:Int}(tv:Value)(aB:List SRow)(acc:Yd.Acc)(d:Deed Code)(i:Nat)(w:World)(hst:Stands w aB tv)(hs:SmallSt i (stOf aB acc))(hi:i≤12)(fd:Fits d)(hsz:d.stack.size≤maxLen∧d.other.size≤maxLen)(f0:Yd.fault be af (stOf aB acc) d=0) :
  Calls Try.prog 52 #[.agg (tv :: accCells acc).toArray,.agg (deedCells d).toArray,Z O i] w (RDeedDone w aB acc d i):=by
 obtain⟨o1,o2,o3,o4⟩:=fault_ok f0
 obtain⟨⟨v0,v1⟩,⟨b0,b1⟩,⟨u0,u1⟩,⟨s0,s1⟩,⟨x0,x1⟩,⟨k0,k1⟩⟩:=acc
 obtain⟨kind,day,code,aA,⟨al,ah⟩,⟨bl,bh⟩⟩:=d
 have hkk:=fd.fine.kind
 simp only at o1 o2 o3 o4 hsz hkk
 by_cases e1:kind=1
 ·subst e1
  exact rdeed_one tv aB v0 v1 b0 b1 u0 u1 s0 s1 x0 x1 k0 k1 day code aA al ah bl bh i w hst hs hi fd hsz (at_new (o1 rfl).1) (o1 rfl).2
 have hk:=o2 e1
 rcases rx_cases aB code with⟨k,p,hix,hp,hat,hkl,hpc⟩ | ⟨_,hno⟩
 rotate_left
 ·exact absurd hk hno
 obtain⟨fa,fn,fc,hpv⟩:=from_slices hst p (List.mem_of_getElem? hp)
 obtain⟨⟨xc,⟨dl,dh⟩,⟨wl,wh⟩,pil,boi,src⟩,pv⟩:=p
 simp only at hpv
 subst hpv
 by_cases e2:kind=2
 ·subst e2
  exact rdeed_two tv aB v0 v1 b0 b1 u0 u1 s0 s1 x0 x1 k0 k1 day code aA al ah bl bh i w hst hs hi fd hsz k xc dl dh wl wh pil boi src fa fn fc hp hix hat
 by_cases e3:kind=3
 ·subst e3
  exact rdeed_three tv aB v0 v1 b0 b1 u0 u1 s0 s1 x0 x1 k0 k1 day code aA al ah bl bh i w hst hs hi fd hsz k xc dl dh wl wh pil boi src fa fn fc hp hix hat
 by_cases e4:kind=4
 ·subst e4
  exact rdeed_four tv aB v0 v1 b0 b1 u0 u1 s0 s1 x0 x1 k0 k1 day code aA al ah bl bh i w hst hs hi fd hsz k xc dl dh wl wh pil boi src fa fn fc hp hix hat
 by_cases e5:kind=5
 ·subst e5
  exact rdeed_five tv aB v0 v1 b0 b1 u0 u1 s0 s1 x0 x1 k0 k1 day code aA al ah bl bh i w hst hs hi fd hsz k xc dl dh wl wh pil boi src fa fn fc hp hix hat (at_new (o3 rfl).1) (o3 rfl).2
 by_cases e6:kind=6
 ·subst e6
  rcases rx_cases aB aA with⟨o,q,hox,hq,hao,hol,_⟩ | ⟨_,hno⟩
  rotate_left
  ·exact absurd (o4 rfl) hno
  obtain⟨ga,gn,gc,hqv⟩:=from_slices hst q (List.mem_of_getElem? hq)
  obtain⟨⟨yc,⟨dl2,dh2⟩,⟨wl2,wh2⟩,pil2,boi2,src2⟩,qv⟩:=q
  simp only at hqv
  subst hqv
  exact rdeed_six tv aB v0 v1 b0 b1 u0 u1 s0 s1 x0 x1 k0 k1 day code aA al ah bl bh i w hst hs hi fd hsz k xc dl dh wl wh pil boi src fa fn fc hp hix hat o yc dl2 dh2 wl2 wh2 pil2 boi2 src2 ga gn gc hq hox hao
 by_cases e7:kind=7
 ·subst e7
  exact rdeed_seven tv aB v0 v1 b0 b1 u0 u1 s0 s1 x0 x1 k0 k1 day code aA al ah bl bh i w hst hs hi fd hsz k xc dl dh wl wh pil boi src fa fn fc hp hix hat
 obtain rfl:kind=8:=by omega
 exact rdeed_eight tv aB v0 v1 b0 b1 u0 u1 s0 s1 x0 x1 k0 k1 day code aA al ah bl bh i w hst hs hi fd hsz k xc dl dh wl wh pil boi src fa fn fc hp hix hat
end Go.Proofs.Ytgekekhbhkgekaa
