/- The document's Follow. -/
import Derived.Test.YtgekekhbhkgekaaRYRefDeedAll
import Derived.Test.YtgekekhbhkgekaaRYCheckAny
namespace Go.Proofs.Ytgekekhbhkgekaa
open Go Go.RowKit Go.Shelf Yd
open Go.Value renaming int→Z,string→Zs,slice→Zl
open Go.IntKind renaming i64→O
open Go.Lib renaming hid→Zh
open _root_.List renaming setIfInBounds_toArray→Za,set_cons_succ→Zb,set_cons_zero→Zc
open _root_.Nat renaming le_of_ble_eq_true→Zn
open Go renaming wpList_store_mid→Zw,cell_regrown→Zg,below_regrown→Zk
set_option maxRecDepth 100000
set_option maxHeartbeats 16000000
set_option linter.unusedSimpArgs false
theorem stands_none (w:World):Stands w [] (Zl none 0 0):=⟨⟨rfl,.inl ⟨rfl,rfl⟩⟩,fun p hp=>by simp at hp,fun p hp=>by simp at hp,by simp,fun p hp=>by simp at hp,by simp⟩
theorem inB_of {x lo hi:Int}(h:inB x lo hi=true):lo≤x∧x≤hi:=by simpa [inB] using h
theorem rfollow_calls (bef aft:Int)(v:Value)(ds:List (Deed Code))(k0:Nat)(w:World)(h:Held w.heap.size w 8 deedCells v ds)(hok:errYard bef aft ds=0)(hsz:∀ d ∈ ds,d.stack.size≤maxLen∧d.other.size≤maxLen)(hn:k0≤ds.length)(h12:k0≤12) :
  Calls Try.prog 28 #[.agg #[Z O bef,Z O aft,v],Z O k0] w (FollowDone w bef aft ds k0):=by
 have HCK:=Zh (fun(W:World) (hW:Below w.heap.size w W)=>refYard_calls bef aft v ds W ((h.below hW).mono hW.size))
 obtain⟨a,c,rfl,hmax,hcs⟩:=h.slice
 have HCS:=Zh hcs;have HSZ:=Zh hsz;have HOK:=Zh hok
 obtain⟨hb1,ha1,hn40,hde⟩:=errYard_ok hok
 have HBE:=Zh (inB_of hb1);have HAF:=Zh (inB_of ha1)
 have HFITS:=Zh (errDeeds_all hde)
 obtain⟨n,hnn⟩:∃ n,n=ds.length:=⟨_,rfl⟩
 have HN:=Zh hnn
 rw [← hnn]at HCK hn hmax hn40 ⊢
 have hIN:inB (k0:Int) 0 (n:Int)=true:=by simp [inB];omega
 clear hnn hok hsz hcs h hde hb1 ha1
 have HL0:=Zh (p:=Locs w ((w.alloc (.cells #[Z O bef,Z O aft,Zl a n c] 24)).alloc (.cells #[Zl none 0 0,Z O 0,Z O 0,Z O 0,Z O 0,Z O 0,Z O 0,Z O 0,Z O 0,Z O 0,Z O 0,Z O 0,Z O 0] 36)) [(w.heap.size,24,[Z O bef,Z O aft,Zl a n c]),(w.heap.size+1,36,[Zl none 0 0,Z O 0,Z O 0,Z O 0,Z O 0,Z O 0,Z O 0,Z O 0,Z O 0,Z O 0,Z O 0,Z O 0,Z O 0])] []) (((Locs.start w).alloc 24 [Z O bef,Z O aft,Zl a n c] rfl).alloc 36 [Zl none 0 0,Z O 0,Z O 0,Z O 0,Z O 0,Z O 0,Z O 0,Z O 0,Z O 0,Z O 0,Z O 0,Z O 0,Z O 0] (World.size_alloc _ _))
 go_enter Try.func28,Try.ntmps28
 go_upto_region 6 with(first
  | (go_at_call 14;refine(HCK.out _ HL0.out.low).mono ?_;rintro e w1 ⟨rfl,hb1⟩;rw [HOK.out];have HL1:=Zh (HL0.out.below hb1);have y2:=HL1.out.at 0 2 (v:=Zl a n c) rfl rfl;clear hb1)
  | (go_at_call 37;refine(in_calls _ _ _ _).mono ?_;rintro e w' ⟨rfl,rfl⟩))
 clear HL0 HCK y2 hIN
 generalize w.heap.size+1=gr at HL1 ⊢
 obtain⟨gy,hgy⟩:∃ g,g=w.heap.size:=⟨_,rfl⟩
 rw [← hgy]at HL1 ⊢
 clear hgy
 go_wp2
 have HL2:=Zh (p:=Locs w (w1.alloc (.cells #[Zl none 0 0,Z O 0,Z O 0,Z O 0,Z O 0,Z O 0,Z O 0,Z O 0,Z O 0,Z O 0,Z O 0,Z O 0,Z O 0] 36)) [(gy,24,[Z O bef,Z O aft,Zl a n c]),(gr,36,[Zl none 0 0,Z O 0,Z O 0,Z O 0,Z O 0,Z O 0,Z O 0,Z O 0,Z O 0,Z O 0,Z O 0,Z O 0,Z O 0]),(w1.heap.size,36,[Zl none 0 0,Z O 0,Z O 0,Z O 0,Z O 0,Z O 0,Z O 0,Z O 0,Z O 0,Z O 0,Z O 0,Z O 0,Z O 0])] []) (HL1.out.alloc 36 [Zl none 0 0,Z O 0,Z O 0,Z O 0,Z O 0,Z O 0,Z O 0,Z O 0,Z O 0,Z O 0,Z O 0,Z O 0,Z O 0] rfl)
 clear HL1
 generalize World.alloc _ _=v1 at HL2 ⊢
 generalize w1.heap.size=gs at HL2 ⊢
 go_loopw [10] (fun iv wr => ∃(k:Nat) (aZ:List SRow) (tv:Value) (acc:Yd.Acc),k≤k0∧iv=Z O k∧Hid (SmallSt k (stOf aZ acc))∧Hid (Yd.follow bef aft ds k0=run bef aft (stOf aZ acc) k ((ds.take k0).drop k))∧Hid (Locs w wr [(gy,24,[Z O bef,Z O aft,Zl a n c]),(gr,36,[Zl none 0 0,Z O 0,Z O 0,Z O 0,Z O 0,Z O 0,Z O 0,Z O 0,Z O 0,Z O 0,Z O 0,Z O 0,Z O 0]),(gs,36,tv :: accCells acc)] [(aZ,tv)])) (fun iv _=>k0-(intOf iv).toNat)
 case atStart=>exact⟨0,[],_,.zero,Nat.zero_le _,rfl,Zh small_empty,Zh (by rw [List.drop_zero];rfl),Zh (HL2.out.stand (Below.refl _ _) (stands_none _) rfl)⟩
 case round =>
  clear HL2
  obtain⟨k,aZ,tv,acc,hk,rfl,HSM,HFO,HLr⟩:=hrel
  obtain⟨t1a,t1n,t1c,rfl⟩:=row_slice (HLr.out.stood 0 rfl).things
  obtain⟨⟨aA,aB⟩,⟨aC,aD⟩,⟨aE,aF⟩,⟨aG,aH⟩,⟨aI,aJ⟩,⟨aK,aL⟩⟩:=acc
  have HL1:=Zh (p:=Locs w wr [(gy,24,[Z O bef,Z O aft,Zl a n c]),(gr,36,[Zl none 0 0,Z O 0,Z O 0,Z O 0,Z O 0,Z O 0,Z O 0,Z O 0,Z O 0,Z O 0,Z O 0,Z O 0,Z O 0]),(gs,36,[Zl t1a t1n t1c,Z O aA,Z O aB,Z O aC,Z O aD,Z O aE,Z O aF,Z O aG,Z O aH,Z O aI,Z O aJ,Z O aK,Z O aL])] [(aZ,Zl t1a t1n t1c)]) (HLr.out)
  clear HLr
  by_cases hlt0:k<k0
  ·skip
   obtain⟨b,off,rfl,hbl,⟨hnc,hcm⟩,bB⟩:=HCS.out (by rw [← HN.out];omega)
   have hlt:k<ds.length:=by rw [← HN.out];omega
   have hin:k<n:=by omega
   have hkI:(k:Int)<(k0:Int):=by omega
   have hinI:(k:Int)<(n:Int):=by omega
   have hi0:(0:Int)≤(k:Int):=by omega
   rw [← HN.out]at hnc
   have hdrop:(ds.take k0).drop k=ds[k]! :: (ds.take k0).drop (k+1):=by
    have h1:k<(ds.take k0).length:=by rw [List.length_take];omega
    rw [drop_get h1,getElem!_pos (ds.take k0) k h1,getElem!_pos ds k hlt,List.getElem_take]
   have hmem:=get_in hlt
   obtain⟨⟨kind,dy,code,aY,⟨al,ah⟩,⟨bl,bh⟩⟩,hd⟩:∃ d,d=ds[k]! :=⟨_,rfl⟩
   rw [← hd]at hdrop hmem
   have hrun:=HFO.out
   rw [hdrop]at hrun
   have HFT:=Zh (HFITS.out _ hmem)
   have HSD:=Zh (HSZ.out _ hmem)
   have HROW:=Zh (p:=∀ W,Below w.heap.size w W→W.rangeAt b (off+k*8) [Z O kind,Z O dy,Zs code,Zs aY,Z O al,Z O ah,Z O bl,Z O bh]) (fun W hW q u hu=>(hW.cell (p:=⟨b,off+k*8+q,none⟩) hbl).trans (bB k hlt q u (by rw [← hd];exact hu)))
   have hk12:k≤12:=by omega
   have HFC:=Zh (show ∀ W,Below wr.heap.size wr W→Calls Try.prog 51 #[.agg #[Z O bef,Z O aft,Zl (some ⟨b,off,none⟩) n c],.agg #[Zl t1a t1n t1c,Z O aA,Z O aB,Z O aC,Z O aD,Z O aE,Z O aF,Z O aG,Z O aH,Z O aI,Z O aJ,Z O aK,Z O aL],.agg #[Z O kind,Z O dy,Zs code,Zs aY,Z O al,Z O ah,Z O bl,Z O bh]] W fun e w'=>e=.returned (Z O (Yd.fault bef aft (stOf aZ (⟨⟨aA,aB⟩,⟨aC,aD⟩,⟨aE,aF⟩,⟨aG,aH⟩,⟨aI,aJ⟩,⟨aK,aL⟩⟩:Yd.Acc)) (⟨kind,dy,code,aY,⟨al,ah⟩,⟨bl,bh⟩⟩:Deed Code)))∧Below W.heap.size W w' from fun W hW=>by
    have hkk:=HFT.out.fine.kind;have hdd:=HFT.out.day
    obtain⟨⟨h1,h2⟩,⟨h3,h4⟩⟩:=fits_a HFT.out
    exact rfault_calls bef aft (some ⟨b,off,none⟩) n c (Zl t1a t1n t1c) aZ (⟨⟨aA,aB⟩,⟨aC,aD⟩,⟨aE,aF⟩,⟨aG,aH⟩,⟨aI,aJ⟩,⟨aK,aL⟩⟩:Yd.Acc) kind dy code aY al ah bl bh k W ((HL1.out.stood 0 rfl).below hW) HSM.out hk12 hkk hdd ⟨h1,h2,h3,h4⟩ HBE.out HAF.out)
   clear bB hbl hdrop hd hmem
   obtain⟨F,hF⟩:∃ F,F=Yd.fault bef aft (stOf aZ (⟨⟨aA,aB⟩,⟨aC,aD⟩,⟨aE,aF⟩,⟨aG,aH⟩,⟨aI,aJ⟩,⟨aK,aL⟩⟩:Yd.Acc)) (⟨kind,dy,code,aY,⟨al,ah⟩,⟨bl,bh⟩⟩:Deed Code):=⟨_,rfl⟩
   rw [← hF]at HFC
   go_upto_region 10 with fail
   have c0:=Zg (show wr.cell? ⟨b,off+k*8,none⟩=some (Z O kind)from HROW.out wr HL1.out.low 0 _ rfl)
   have c1:=Zg (show wr.cell? ⟨b,off+k*8+1,none⟩=some (Z O dy)from HROW.out wr HL1.out.low 1 _ rfl)
   have c2:=Zg (show wr.cell? ⟨b,off+k*8+2,none⟩=some (Zs code)from HROW.out wr HL1.out.low 2 _ rfl)
   have c3:=Zg (show wr.cell? ⟨b,off+k*8+3,none⟩=some (Zs aY)from HROW.out wr HL1.out.low 3 _ rfl)
   have c4:=Zg (show wr.cell? ⟨b,off+k*8+4,none⟩=some (Z O al)from HROW.out wr HL1.out.low 4 _ rfl)
   have c5:=Zg (show wr.cell? ⟨b,off+k*8+5,none⟩=some (Z O ah)from HROW.out wr HL1.out.low 5 _ rfl)
   have c6:=Zg (show wr.cell? ⟨b,off+k*8+6,none⟩=some (Z O bl)from HROW.out wr HL1.out.low 6 _ rfl)
   have c7:=Zg (show wr.cell? ⟨b,off+k*8+7,none⟩=some (Z O bh)from HROW.out wr HL1.out.low 7 _ rfl)
   have m0:∀ d os,Calls Try.prog 51 #[.agg #[Z O bef,Z O aft,Zl (some ⟨b,off,none⟩) n c],.agg #[Zl t1a t1n t1c,Z O aA,Z O aB,Z O aC,Z O aD,Z O aE,Z O aF,Z O aG,Z O aH,Z O aI,Z O aJ,Z O aK,Z O aL],.agg #[Z O kind,Z O dy,Zs code,Zs aY,Z O al,Z O ah,Z O bl,Z O bh]] (Go.Sort.grow (redrawn wr d) os) fun e w''=>e=.returned (Z O F)∧∃ p:Regrown,w''=Go.Sort.grow (redrawn wr p.d) p.os:=fun d os=>Calls.regrown_of (HFC.out _ (Zk wr d os))
   have q0:=Zg (HL1.out.at 0 0 (v:=Z O bef) rfl rfl)
   have q1:=Zg (HL1.out.at 0 1 (v:=Z O aft) rfl rfl)
   have q2:=Zg (HL1.out.at 0 2 (v:=Zl (some ⟨b,off,none⟩) n c) rfl rfl)
   have q3:=Zg (HL1.out.at 2 0 (v:=Zl t1a t1n t1c) rfl rfl)
   have q4:=Zg (HL1.out.at 2 1 (v:=Z O aA) rfl rfl)
   have q5:=Zg (HL1.out.at 2 2 (v:=Z O aB) rfl rfl)
   have q6:=Zg (HL1.out.at 2 3 (v:=Z O aC) rfl rfl)
   have q7:=Zg (HL1.out.at 2 4 (v:=Z O aD) rfl rfl)
   have q8:=Zg (HL1.out.at 2 5 (v:=Z O aE) rfl rfl)
   have q9:=Zg (HL1.out.at 2 6 (v:=Z O aF) rfl rfl)
   have q10:=Zg (HL1.out.at 2 7 (v:=Z O aG) rfl rfl)
   have q11:=Zg (HL1.out.at 2 8 (v:=Z O aH) rfl rfl)
   have q12:=Zg (HL1.out.at 2 9 (v:=Z O aI) rfl rfl)
   have q13:=Zg (HL1.out.at 2 10 (v:=Z O aJ) rfl rfl)
   have q14:=Zg (HL1.out.at 2 11 (v:=Z O aK) rfl rfl)
   have q15:=Zg (HL1.out.at 2 12 (v:=Z O aL) rfl rfl)
   refine wp_region_quiet_below (by kernel_rfl) (by kernel_rfl) ?_
   repeat(go_big_quiet_step (with_reducible exact m0 _ _))
   refine wpQuiet_nil ?_
   intro wq hw'
   have hb8:Below wr.heap.size wr wq:=by obtain⟨⟨dq,osq⟩,hw''⟩:=hw';rw [hw''];exact Zk _ dq osq
   clear hw' q0 q1 q2 q3 q4 q5 q6 q7 q8 q9 q10 q11 q12 q13 q14 q15 m0 c0 c1 c2 c3 c4 c5 c6 c7
   have HL2:=Zh (HL1.out.below hb8)
   clear hb8 HL1
   generalize wq=v2 at HL2 ⊢
   clear HFC
   by_cases hf0:F=0
   ·skip
    rw [hf0]at hF
    have hrun2:=hrun
    rw [run,if_pos hF.symm]at hrun2
    have HRN:=Zh hrun2
    have HSM2:=Zh (small_step HSM.out HFT.out hF.symm)
    have HDE:=Zh (p:=∀ W,Below v2.heap.size v2 W→Calls Try.prog 52 #[.agg #[Zl t1a t1n t1c,Z O aA,Z O aB,Z O aC,Z O aD,Z O aE,Z O aF,Z O aG,Z O aH,Z O aI,Z O aJ,Z O aK,Z O aL],.agg #[Z O kind,Z O dy,Zs code,Zs aY,Z O al,Z O ah,Z O bl,Z O bh],Z O k] W (RDeedDone W aZ (⟨⟨aA,aB⟩,⟨aC,aD⟩,⟨aE,aF⟩,⟨aG,aH⟩,⟨aI,aJ⟩,⟨aK,aL⟩⟩:Yd.Acc) (⟨kind,dy,code,aY,⟨al,ah⟩,⟨bl,bh⟩⟩:Deed Code) k)) (fun W hW=>rdeed_calls (be:=bef) (af:=aft) (Zl t1a t1n t1c) aZ (⟨⟨aA,aB⟩,⟨aC,aD⟩,⟨aE,aF⟩,⟨aG,aH⟩,⟨aI,aJ⟩,⟨aK,aL⟩⟩:Yd.Acc) (⟨kind,dy,code,aY,⟨al,ah⟩,⟨bl,bh⟩⟩:Deed Code) k W ((HL2.out.stood 0 rfl).below hW) HSM.out hk12 HFT.out HSD.out hF.symm)
    have HROW2:=Zh (p:=∀ W,Below v2.heap.size v2 W→W.rangeAt b (off+k*8) [Z O kind,Z O dy,Zs code,Zs aY,Z O al,Z O ah,Z O bl,Z O bh]) (fun W hW=>HROW.out W (HL2.out.low.trans (hW.mono HL2.out.low.size)))
    clear hrun hrun2 hF
    subst hf0
    go_upto_region 13 with fail
    refine region_till [8] (fun w'=>Below v2.heap.size v2 w') 9 [false,false,false,false,false,false,false,false,false] (by kernel_rfl) rfl rfl ?_
    have HT:=Zh ((Below.refl v2.heap.size v2).drew)
    have HL3:=Zh (HL2.out.drew)
    generalize v2.drew=v3 at HT HL3 ⊢
    refine till_load (i:=0) (v:=.agg #[Zl t1a t1n t1c,Z O aA,Z O aB,Z O aC,Z O aD,Z O aE,Z O aF,Z O aG,Z O aH,Z O aI,Z O aJ,Z O aK,Z O aL]) rfl rfl (by kernel_rfl) (fun _ _ _ h=>h) (yields_mid rfl 36 (.tmp 9) rfl (gs) 0 rfl [Zl t1a t1n t1c,Z O aA,Z O aB,Z O aC,Z O aD,Z O aE,Z O aF,Z O aG,Z O aH,Z O aI,Z O aJ,Z O aK,Z O aL] _ (fun w' hw'=>HL2.out.rangeB hw' 2 0 _ rfl rfl) Try.underlying36 rfl (by kernel_rfl)) (fun _=>HT.out) ?_
    try simp only [Za,Zb,Zc]
    refine till_pure (i:=1) (v:=.pointer (some ⟨gy,2,none⟩)) rfl rfl (by kernel_rfl) (fun _ _ _ h=>h) (yields_of rfl (fun w' _=>by simp [go_sem])) (fun _=>HT.out) ?_
    try simp only [Za,Zb,Zc]
    refine till_load (i:=2) (v:=Zl (some ⟨b,off,none⟩) n c) rfl rfl (by kernel_rfl) (fun _ _ _ h=>h) (yields_of rfl (fun w' hw'=>by have hcx:w'.cell? ⟨gy,2,none⟩=some (Zl (some ⟨b,off,none⟩) n c):=HL2.out.atB hw' 0 2 rfl rfl;simp [go_sem,hcx])) (fun _=>HT.out) ?_
    try simp only [Za,Zb,Zc]
    refine till_pure (i:=3) (v:=Z O (k:Int)) rfl rfl (by kernel_rfl) (fun _ _ _ h=>h) (yields_of rfl (fun w' _=>by simp [go_sem])) (fun _=>HT.out) ?_
    try simp only [Za,Zb,Zc]
    refine till_pure (i:=4) (v:=.pointer (some ⟨b,off+k*8,none⟩)) rfl rfl (by kernel_rfl) (fun _ _ _ h=>h) (yields_of rfl (fun w' _=>by simp [go_sem,Try.underlying22,hi0,hin,hinI,hnc])) (fun _=>HT.out) ?_
    try simp only [Za,Zb,Zc]
    refine till_load (i:=5) (v:=.agg #[Z O kind,Z O dy,Zs code,Zs aY,Z O al,Z O ah,Z O bl,Z O bh]) rfl rfl (by kernel_rfl) (fun _ _ _ h=>h) (yields_mid rfl 55 (.tmp 50) rfl b (off+k*8) rfl [Z O kind,Z O dy,Zs code,Zs aY,Z O al,Z O ah,Z O bl,Z O bh] _ (fun w' hw'=>HROW2.out w' hw') Try.underlying55 rfl (by kernel_rfl)) (fun _=>HT.out) ?_
    try simp only [Za,Zb,Zc]
    refine till_pure (i:=6) (v:=Z O (k:Int)) rfl rfl (by kernel_rfl) (fun _ _ _ h=>h) (yields_of rfl (fun w' _=>by simp [go_sem])) (fun _=>HT.out) ?_
    try simp only [Za,Zb,Zc]
    refine till_only (j:=7) (by kernel_rfl) rfl ?_
    go_wp2_with (go_at_call 52;refine(HDE.out _ HT.out).mono ?_;rintro e v4 ⟨rows2,tv2,acc2,rfl,hb,hst2,hso⟩;obtain⟨⟨aM,aN⟩,⟨aO,aP⟩,⟨aQ,aR⟩,⟨aS,aT⟩,⟨aU,aV⟩,⟨aW,aX⟩⟩:=acc2;obtain⟨t2a,t2n,t2c,rfl⟩:=row_slice hst2.things;have HSO:=Zh hso;have HL4:=Zh (HL3.out.stand hb hst2 rfl);have HT:=Zh (HT.out.trans (hb.mono HT.out.size));clear hb hst2 hso)
    refine⟨(fun _=>HT.out),?_⟩
    try simp only [Za,Zb,Zc]
    refine till_only (j:=8) (by kernel_rfl) rfl ?_
    refine Zw rfl 36 (.tmp 9) (.tmp 53) rfl gs 0 #[Zl t2a t2n t2c,Z O aM,Z O aN,Z O aO,Z O aP,Z O aQ,Z O aR,Z O aS,Z O aT,Z O aU,Z O aV,Z O aW,Z O aX] rfl rfl (HL4.out.there 2 (o:=0) (n:=13) rfl (Zn rfl)) size_standing (by simp [Value.oneCell']) ?_
    change wpList _ _ _ _ _ (v4.setCells gs 0 [Zl t2a t2n t2c,Z O aM,Z O aN,Z O aO,Z O aP,Z O aQ,Z O aR,Z O aS,Z O aT,Z O aU,Z O aV,Z O aW,Z O aX])
    have HL5:=Zh (p:=Locs w (v4.setCells gs 0 [Zl t2a t2n t2c,Z O aM,Z O aN,Z O aO,Z O aP,Z O aQ,Z O aR,Z O aS,Z O aT,Z O aU,Z O aV,Z O aW,Z O aX]) [(gy,24,[Z O bef,Z O aft,Zl (some ⟨b,off,none⟩) n c]),(gr,36,[Zl none 0 0,Z O 0,Z O 0,Z O 0,Z O 0,Z O 0,Z O 0,Z O 0,Z O 0,Z O 0,Z O 0,Z O 0,Z O 0]),(gs,36,[Zl t2a t2n t2c,Z O aM,Z O aN,Z O aO,Z O aP,Z O aQ,Z O aR,Z O aS,Z O aT,Z O aU,Z O aV,Z O aW,Z O aX])] [(aZ,Zl t1a t1n t1c),(rows2,Zl t2a t2n t2c)]) (HL4.out.put 2 0 _ rfl)
    clear HL4
    generalize World.setCells _ _ _ _=v5 at HL5 ⊢
    change Till _ _ _ _∧wpAnyT _ _ _ _ _ _ _ _ _ _
    refine⟨(fun h=>by simp at h),?_⟩
    try simp only [Za,Zb,Zc]
    refine till_done (by kernel_rfl) ?_
    try simp only [Act.put]
    have HL9:=Zh (p:=Locs w v5 [(gy,24,[Z O bef,Z O aft,Zl (some ⟨b,off,none⟩) n c]),(gr,36,[Zl none 0 0,Z O 0,Z O 0,Z O 0,Z O 0,Z O 0,Z O 0,Z O 0,Z O 0,Z O 0,Z O 0,Z O 0,Z O 0]),(gs,36,[Zl t2a t2n t2c,Z O aM,Z O aN,Z O aO,Z O aP,Z O aQ,Z O aR,Z O aS,Z O aT,Z O aU,Z O aV,Z O aW,Z O aX])] [(rows2,Zl t2a t2n t2c)]) (HL5.out.fewer (List.Sublist.refl _) (List.sublist_append_right [(aZ,Value.slice t1a t1n t1c)] _))
    clear HL5 HT
    go_wp2
    go_roundw
    case rel=>exact⟨k+1,rows2,Zl t2a t2n t2c,(⟨⟨aM,aN⟩,⟨aO,aP⟩,⟨aQ,aR⟩,⟨aS,aT⟩,⟨aU,aV⟩,⟨aW,aX⟩⟩:Yd.Acc),by omega,by go_num,Zh (by rw [HSO.out];exact HSM2.out),Zh (by rw [HSO.out];exact HRN.out),HL9⟩
    case measure=>simp [intOf];omega
   ·skip
    rw [run,if_neg (by rw [← hF];exact hf0),← hF]at hrun
    have HRUN:=Zh hrun
    have df:(F == 0)=false:=by simpa using hf0
    have dg:(F != 0)=true:=by simpa using hf0
    clear hrun hF hf0 hnc hcm
    have s0:=HL2.out.at 2 0 (v:=Zl t1a t1n t1c) rfl rfl
    have s1:=HL2.out.at 2 1 (v:=Z O aA) rfl rfl
    have s2:=HL2.out.at 2 2 (v:=Z O aB) rfl rfl
    have s3:=HL2.out.at 2 3 (v:=Z O aC) rfl rfl
    have s4:=HL2.out.at 2 4 (v:=Z O aD) rfl rfl
    have s5:=HL2.out.at 2 5 (v:=Z O aE) rfl rfl
    have s6:=HL2.out.at 2 6 (v:=Z O aF) rfl rfl
    have s7:=HL2.out.at 2 7 (v:=Z O aG) rfl rfl
    have s8:=HL2.out.at 2 8 (v:=Z O aH) rfl rfl
    have s9:=HL2.out.at 2 9 (v:=Z O aI) rfl rfl
    have s10:=HL2.out.at 2 10 (v:=Z O aJ) rfl rfl
    have s11:=HL2.out.at 2 11 (v:=Z O aK) rfl rfl
    have s12:=HL2.out.at 2 12 (v:=Z O aL) rfl rfl
    go_wp2_with ((with_reducible refine at_store 36 (.tmp 4) (.tmp 43) ?_);go_must (refine Zw rfl 36 (.tmp 4) (.tmp 43) rfl gr 0 #[Zl t1a t1n t1c,Z O aA,Z O aB,Z O aC,Z O aD,Z O aE,Z O aF,Z O aG,Z O aH,Z O aI,Z O aJ,Z O aK,Z O aL] rfl rfl (HL2.out.there 1 (o:=0) (n:=13) rfl (Zn rfl)) size_standing (by simp [Value.oneCell']) ?_))
    clear s0 s1 s2 s3 s4 s5 s6 s7 s8 s9 s10 s11 s12
    have HLf:=Zh (p:=Locs w (v2.setCells gr 0 [Zl t1a t1n t1c,Z O aA,Z O aB,Z O aC,Z O aD,Z O aE,Z O aF,Z O aG,Z O aH,Z O aI,Z O aJ,Z O aK,Z O aL]) [(gy,24,[Z O bef,Z O aft,Zl (some ⟨b,off,none⟩) n c]),(gr,36,[Zl t1a t1n t1c,Z O aA,Z O aB,Z O aC,Z O aD,Z O aE,Z O aF,Z O aG,Z O aH,Z O aI,Z O aJ,Z O aK,Z O aL]),(gs,36,[Zl t1a t1n t1c,Z O aA,Z O aB,Z O aC,Z O aD,Z O aE,Z O aF,Z O aG,Z O aH,Z O aI,Z O aJ,Z O aK,Z O aL])] [(aZ,Zl t1a t1n t1c)]) (HL2.out.put 1 0 _ rfl)
    have r0:=HLf.out.at 1 0 (v:=Zl t1a t1n t1c) rfl rfl
    have r1:=HLf.out.at 1 1 (v:=Z O aA) rfl rfl
    have r2:=HLf.out.at 1 2 (v:=Z O aB) rfl rfl
    have r3:=HLf.out.at 1 3 (v:=Z O aC) rfl rfl
    have r4:=HLf.out.at 1 4 (v:=Z O aD) rfl rfl
    have r5:=HLf.out.at 1 5 (v:=Z O aE) rfl rfl
    have r6:=HLf.out.at 1 6 (v:=Z O aF) rfl rfl
    have r7:=HLf.out.at 1 7 (v:=Z O aG) rfl rfl
    have r8:=HLf.out.at 1 8 (v:=Z O aH) rfl rfl
    have r9:=HLf.out.at 1 9 (v:=Z O aI) rfl rfl
    have r10:=HLf.out.at 1 10 (v:=Z O aJ) rfl rfl
    have r11:=HLf.out.at 1 11 (v:=Z O aK) rfl rfl
    have r12:=HLf.out.at 1 12 (v:=Z O aL) rfl rfl
    refine bodyPost_ret (v:=.tuple #[.agg #[Zl t1a t1n t1c,Z O aA,Z O aB,Z O aC,Z O aD,Z O aE,Z O aF,Z O aG,Z O aH,Z O aI,Z O aJ,Z O aK,Z O aL],Z O k,Z O F,Z O 0]) (by simp [results,Try.results28,go_sem,r0,r1,r2,r3,r4,r5,r6,r7,r8,r9,r10,r11,r12]) rfl ?_
    exact⟨aZ,Zl t1a t1n t1c,(⟨⟨aA,aB⟩,⟨aC,aD⟩,⟨aE,aF⟩,⟨aG,aH⟩,⟨aI,aJ⟩,⟨aK,aL⟩⟩:Yd.Acc),k,F,HRUN.out,HSM.out,hk,rfl,HLf.out.low,HLf.out.stood 0 rfl⟩
  ·skip
   have hkn:k0=k:=by omega
   subst hkn
   have HRUN:=Zh (p:=Yd.follow bef aft ds k0=(stOf aZ (⟨⟨aA,aB⟩,⟨aC,aD⟩,⟨aE,aF⟩,⟨aG,aH⟩,⟨aI,aJ⟩,⟨aK,aL⟩⟩:Yd.Acc),k0,0)) (by rw [HFO.out,List.drop_eq_nil_of_le (by rw [List.length_take];omega)];rfl)
   have s0:=HL1.out.at 2 0 (v:=Zl t1a t1n t1c) rfl rfl
   have s1:=HL1.out.at 2 1 (v:=Z O aA) rfl rfl
   have s2:=HL1.out.at 2 2 (v:=Z O aB) rfl rfl
   have s3:=HL1.out.at 2 3 (v:=Z O aC) rfl rfl
   have s4:=HL1.out.at 2 4 (v:=Z O aD) rfl rfl
   have s5:=HL1.out.at 2 5 (v:=Z O aE) rfl rfl
   have s6:=HL1.out.at 2 6 (v:=Z O aF) rfl rfl
   have s7:=HL1.out.at 2 7 (v:=Z O aG) rfl rfl
   have s8:=HL1.out.at 2 8 (v:=Z O aH) rfl rfl
   have s9:=HL1.out.at 2 9 (v:=Z O aI) rfl rfl
   have s10:=HL1.out.at 2 10 (v:=Z O aJ) rfl rfl
   have s11:=HL1.out.at 2 11 (v:=Z O aK) rfl rfl
   have s12:=HL1.out.at 2 12 (v:=Z O aL) rfl rfl
   go_wp2_with ((with_reducible refine at_store 36 (.tmp 4) (.tmp 54) ?_);go_must (refine Zw rfl 36 (.tmp 4) (.tmp 54) rfl gr 0 #[Zl t1a t1n t1c,Z O aA,Z O aB,Z O aC,Z O aD,Z O aE,Z O aF,Z O aG,Z O aH,Z O aI,Z O aJ,Z O aK,Z O aL] rfl rfl (HL1.out.there 1 (o:=0) (n:=13) rfl (Zn rfl)) size_standing (by simp [Value.oneCell']) ?_))
   clear s0 s1 s2 s3 s4 s5 s6 s7 s8 s9 s10 s11 s12
   have HLf:=Zh (p:=Locs w (wr.setCells gr 0 [Zl t1a t1n t1c,Z O aA,Z O aB,Z O aC,Z O aD,Z O aE,Z O aF,Z O aG,Z O aH,Z O aI,Z O aJ,Z O aK,Z O aL]) [(gy,24,[Z O bef,Z O aft,Zl a n c]),(gr,36,[Zl t1a t1n t1c,Z O aA,Z O aB,Z O aC,Z O aD,Z O aE,Z O aF,Z O aG,Z O aH,Z O aI,Z O aJ,Z O aK,Z O aL]),(gs,36,[Zl t1a t1n t1c,Z O aA,Z O aB,Z O aC,Z O aD,Z O aE,Z O aF,Z O aG,Z O aH,Z O aI,Z O aJ,Z O aK,Z O aL])] [(aZ,Zl t1a t1n t1c)]) (HL1.out.put 1 0 _ rfl)
   have r0:=HLf.out.at 1 0 (v:=Zl t1a t1n t1c) rfl rfl
   have r1:=HLf.out.at 1 1 (v:=Z O aA) rfl rfl
   have r2:=HLf.out.at 1 2 (v:=Z O aB) rfl rfl
   have r3:=HLf.out.at 1 3 (v:=Z O aC) rfl rfl
   have r4:=HLf.out.at 1 4 (v:=Z O aD) rfl rfl
   have r5:=HLf.out.at 1 5 (v:=Z O aE) rfl rfl
   have r6:=HLf.out.at 1 6 (v:=Z O aF) rfl rfl
   have r7:=HLf.out.at 1 7 (v:=Z O aG) rfl rfl
   have r8:=HLf.out.at 1 8 (v:=Z O aH) rfl rfl
   have r9:=HLf.out.at 1 9 (v:=Z O aI) rfl rfl
   have r10:=HLf.out.at 1 10 (v:=Z O aJ) rfl rfl
   have r11:=HLf.out.at 1 11 (v:=Z O aK) rfl rfl
   have r12:=HLf.out.at 1 12 (v:=Z O aL) rfl rfl
   refine bodyPost_ret (v:=.tuple #[.agg #[Zl t1a t1n t1c,Z O aA,Z O aB,Z O aC,Z O aD,Z O aE,Z O aF,Z O aG,Z O aH,Z O aI,Z O aJ,Z O aK,Z O aL],Z O k0,Z O 0,Z O 0]) (by simp [results,Try.results28,go_sem,r0,r1,r2,r3,r4,r5,r6,r7,r8,r9,r10,r11,r12]) rfl ?_
   exact⟨aZ,Zl t1a t1n t1c,(⟨⟨aA,aB⟩,⟨aC,aD⟩,⟨aE,aF⟩,⟨aG,aH⟩,⟨aI,aJ⟩,⟨aK,aL⟩⟩:Yd.Acc),k0,0,HRUN.out,HSM.out,hk,rfl,HLf.out.low,HLf.out.stood 0 rfl⟩
end Go.Proofs.Ytgekekhbhkgekaa
