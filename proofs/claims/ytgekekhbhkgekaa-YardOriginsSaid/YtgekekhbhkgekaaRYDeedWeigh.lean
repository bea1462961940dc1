/- A deed: weigh. -/
import Derived.Test.YtgekekhbhkgekaaRYClone
namespace Go.Proofs.Ytgekekhbhkgekaa
open Go Go.RowKit Yd
open _root_.Go.Value renaming int → Z, string → Zs, slice → Zl
open _root_.Go.IntKind renaming i64 → O
open _root_.Go.Lib renaming hid → Zh
open _root_.List renaming setIfInBounds_toArray → Za, set_cons_succ → Zb, set_cons_zero → Zc
open _root_.Nat renaming le_of_ble_eq_true → Zn
open _root_.Go renaming wpList_store_mid → Zw
set_option maxRecDepth 100000
set_option maxHeartbeats 16000000
theorem weigh_no {w:World}{C:Nat→Prop}{B:Nat}{bef aft:Int}{l:List SRow}{c:Yd.Acc}{made:Int}{N:Nat}{kv tv:Value}{m:Nat}(h:Book w C B bef aft l c made N kv tv m)
  (kind day:Int) (code other:Code) (al ah bl bh:Int) (hs:code.size≤maxLen) (hC:∀ k,C k→k<w.heap.size) (hn:ixOf l code=none) :
  Calls Try.prog 90 #[.pointer (some ⟨B,0,none⟩),.agg #[Z O kind,Z O day,Zs code,Zs other,Z O al,Z O ah,Z O bl,Z O bh]] w fun e w'=>e=.panicked (faulty 1)∧Below w.heap.size w w':=by
 have DK1:=Zh (boxed_deed h hC [Z O kind,Z O day,Zs code,Zs other,Z O al,Z O ah,Z O bl,Z O bh])
 have HS:=Zh hs;have HN:=Zh hn
 clear h hs hn hC
 go_enter Try.func90,Try.ntmps90
 go_wp2_with (go_at_call 94;refine(stack_no DK1.out.book code HS.out HN.out).mono ?_;rintro e w1 ⟨rfl,hb1⟩;have DK2:=Zh (DK1.out.below hb1);clear hb1)
 exact⟨rfl,rfl,DK2.out.quiet⟩
theorem weigh_ok {w:World}{C:Nat→Prop}{B:Nat}{bef aft:Int}{l:List SRow}{c:Yd.Acc}{made:Int}{N:Nat}{kv tv:Value}{m:Nat}(h:Book w C B bef aft l c made N kv tv m)
  (kind day:Int) (code other:Code) (al ah bl bh:Int) (hs:code.size≤maxLen) (hC:∀ k,C k→k<w.heap.size) (dl dh wl wh pil boi:Int) (src:List Int) (fa:Option Addr) (fn fc:Nat) (V:Int) (hV:V≤2000000000000000) {k:Nat} (hk:ixOf l code=some k) (hp:l[k]? = some (⟨code,⟨dl,dh⟩,⟨wl,wh⟩,pil,boi,src⟩,Zl fa fn fc)) (ud:Bd.Up ⟨dl,dh⟩ V) (uw:Bd.Up ⟨wl,wh⟩ V) (ua:Bd.Up ⟨al,ah⟩ 100000000) (h1:(Bd.weighed ⟨dl,dh⟩ ⟨wl,wh⟩ ⟨al,ah⟩).lo≤(Bd.weighed ⟨dl,dh⟩ ⟨wl,wh⟩ ⟨al,ah⟩).hi) (h2:(Bd.weighed ⟨wl,wh⟩ ⟨dl,dh⟩ ⟨al,ah⟩).lo≤(Bd.weighed ⟨wl,wh⟩ ⟨dl,dh⟩ ⟨al,ah⟩).hi) :
  Calls Try.prog 90 #[.pointer (some ⟨B,0,none⟩),.agg #[Z O kind,Z O day,Zs code,Zs other,Z O al,Z O ah,Z O bl,Z O bh]] w fun e w'=>e=.returned (.tuple #[])∧Beside C w w'∧Book w' C B bef aft (l.set k (⟨code,Bd.weighed ⟨dl,dh⟩ ⟨wl,wh⟩ ⟨al,ah⟩,Bd.weighed ⟨wl,wh⟩ ⟨dl,dh⟩ ⟨al,ah⟩,pil,boi,src⟩,Zl fa fn fc)) c made N kv tv m:=by
 have HUD:=Zh ud;have HUW:=Zh uw;have HUA:=Zh ua
 have HV8:=Zh (p:=V≤8000000000000000) (Int.le_trans hV (by decide))
 have HF1:=Zh (sub_fit ua (by decide) uw HV8.out);have HF2:=Zh (sub_fit ua (by decide) ud HV8.out)
 have HFD:=Zh (fit_of_up ud (show V≤4000000000000000000 from Int.le_trans hV (by decide)));have HFW:=Zh (fit_of_up uw (show V≤4000000000000000000 from Int.le_trans hV (by decide)))
 clear ud uw ua
 obtain⟨d1,hd1⟩:∃ b:Bd,b=Bd.sub ⟨al,ah⟩ ⟨wl,wh⟩:=⟨_,rfl⟩
 have Ed1:=Zh hd1;clear hd1
 obtain⟨m1,hm1⟩:∃ b:Bd,b=Bd.meet ⟨dl,dh⟩ d1:=⟨_,rfl⟩
 have Em1:=Zh hm1;clear hm1
 obtain⟨d2,hd2⟩:∃ b:Bd,b=Bd.sub ⟨al,ah⟩ ⟨dl,dh⟩:=⟨_,rfl⟩
 have Ed2:=Zh hd2;clear hd2
 obtain⟨m2,hm2⟩:∃ b:Bd,b=Bd.meet ⟨wl,wh⟩ d2:=⟨_,rfl⟩
 have Em2:=Zh hm2;clear hm2
 rw [← Ed1.out]at HF1
 rw [← Ed2.out]at HF2
 have b1:decide (m1.lo≤m1.hi)=true:=by rw [Em1.out,Ed1.out];exact decide_eq_true h1
 have b2:decide (m2.lo≤m2.hi)=true:=by rw [Em2.out,Ed2.out];exact decide_eq_true h2
 clear h1 h2
 have DK1:=Zh (boxed_deed h hC [Z O kind,Z O day,Zs code,Zs other,Z O al,Z O ah,Z O bl,Z O bh])
 have hz1:(w.alloc (.cells #[Z O kind,Z O day,Zs code,Zs other,Z O al,Z O ah,Z O bl,Z O bh] 55)).heap.size=w.heap.size+1:=World.size_alloc _ _
 have HS:=Zh hs;have HK:=Zh hk;have HP:=Zh hp;have HC:=Zh hC
 clear h hs hk hp hC
 go_enter Try.func90,Try.ntmps90
 go_upto_region 2 with(first
  | (go_at_call 94;refine(stack_yes DK1.out.book code HS.out HK.out HP.out).mono ?_;rintro e w1 ⟨rfl,hb1⟩;have DK2:=Zh ((DK1.out.below hb1).alloc 49 [Zs ⟨#[]⟩,Z O 0,Z O 0,Z O 0,Z O 0,Z O 0,Z O 0,Zl none 0 0] rfl);clear hb1)
  | ((with_reducible refine at_store 49 (.tmp 4) (.tmp 10) ?_);go_must (refine Zw rfl 49 (.tmp 4) (.tmp 10) rfl w1.heap.size 0 #[Zs code,Z O dl,Z O dh,Z O wl,Z O wh,Z O pil,Z O boi,Zl fa fn fc] rfl rfl ((DK2.out.loc 1 _ _ _ rfl).1.there (o:=0) (n:=8) (Zn rfl)) size_stack (by simp [Value.oneCell']) ?_)))
 have hgS:=(DK2.out.far 1 rfl).1
 have DK3:=Zh (p:=Desk w ((w1.alloc (.cells #[Zs ⟨#[]⟩,Z O 0,Z O 0,Z O 0,Z O 0,Z O 0,Z O 0,Zl none 0 0] 49)).setCells w1.heap.size 0 [Zs code,Z O dl,Z O dh,Z O wl,Z O wh,Z O pil,Z O boi,Zl fa fn fc]) (fun _=>False) C B bef aft l c made N kv tv m [(w.heap.size,55,[Z O kind,Z O day,Zs code,Zs other,Z O al,Z O ah,Z O bl,Z O bh]),(w1.heap.size,49,[Zs code,Z O dl,Z O dh,Z O wl,Z O wh,Z O pil,Z O boi,Zl fa fn fc])]) (DK2.out.put 1 0 _ rfl)
 clear DK2
 generalize((w1.alloc (.cells #[Zs ⟨#[]⟩,Z O 0,Z O 0,Z O 0,Z O 0,Z O 0,Z O 0,Zl none 0 0] 49)).setCells w1.heap.size 0 [Zs code,Z O dl,Z O dh,Z O wl,Z O wh,Z O pil,Z O boi,Zl fa fn fc])=W3 at DK3 ⊢
 obtain⟨gD,hgD⟩:∃ g,g=w.heap.size:=⟨_,rfl⟩
 obtain⟨gS,hgS2⟩:∃ g,g=w1.heap.size:=⟨_,rfl⟩
 rw [← hgD,← hgS2]at DK3 ⊢
 have HZ:=Zh (And.intro hgD hgS2)
 clear hgD hgS2 hgS hz1
 simp only [Act.put]
 go_cut [5]from 11 to 18 (fun u wx => ∃ gX:Nat,u=.pointer (some ⟨gX,0,none⟩)∧Hid (Desk w wx (fun _=>False) C B bef aft l c made N kv tv m [(gD,55,[Z O kind,Z O day,Zs code,Zs other,Z O al,Z O ah,Z O bl,Z O bh]),(gS,49,[Zs code,Z O dl,Z O dh,Z O wl,Z O wh,Z O pil,Z O boi,Zl fa fn fc]),(gX,32,[Z O m1.lo,Z O m1.hi])]))
 case first =>
  refine region_till [9] (fun w'=>Blk w' gD 55 #[Z O kind,Z O day,Zs code,Zs other,Z O al,Z O ah,Z O bl,Z O bh]∧Blk w' gS 49 #[Zs code,Z O dl,Z O dh,Z O wl,Z O wh,Z O pil,Z O boi,Zl fa fn fc]) 10 [false,false,false,false,false,false,false,false,false,false] (by kernel_rfl) rfl rfl ?_
  have MK1:=fun(W:World) (h:(fun w'=>Blk w' gD 55 #[Z O kind,Z O day,Zs code,Zs other,Z O al,Z O ah,Z O bl,Z O bh]∧Blk w' gS 49 #[Zs code,Z O dl,Z O dh,Z O wl,Z O wh,Z O pil,Z O boi,Zl fa fn fc]) W)=>Zh h
  have DK4:=Zh (DK3.out.drew)
  clear DK3
  generalize W3.drew=v0 at DK4 ⊢
  have HT:=MK1 v0 ⟨(DK4.out.loc 0 _ _ _ rfl).1,(DK4.out.loc 1 _ _ _ rfl).1⟩
  refine till_pure (i:=0) (v:=.pointer (some ⟨gS,1,none⟩)) rfl rfl (by kernel_rfl) (fun _ _ _ h=>h) (yields_of rfl (fun w' _=>by simp [go_sem])) (fun _=>HT.out) ?_
  simp only [Za,Zb,Zc]
  refine till_load (i:=1) (v:=.agg #[Z O dl,Z O dh]) rfl rfl (by kernel_rfl) (fun _ _ _ h=>h) (yields_mid rfl 32 (.tmp 11) rfl (gS) 1 rfl [Z O dl,Z O dh] _ (fun w' hw'=>Blk.range hw'.2 1 _ rfl) Try.underlying32 rfl (by kernel_rfl)) (fun _=>HT.out) ?_
  simp only [Za,Zb,Zc]
  refine till_pure (i:=2) (v:=.pointer (some ⟨gD,4,none⟩)) rfl rfl (by kernel_rfl) (fun _ _ _ h=>h) (yields_of rfl (fun w' _=>by simp [go_sem])) (fun _=>HT.out) ?_
  simp only [Za,Zb,Zc]
  refine till_load (i:=3) (v:=.agg #[Z O al,Z O ah]) rfl rfl (by kernel_rfl) (fun _ _ _ h=>h) (yields_mid rfl 32 (.tmp 13) rfl (gD) 4 rfl [Z O al,Z O ah] _ (fun w' hw'=>Blk.range hw'.1 4 _ rfl) Try.underlying32 rfl (by kernel_rfl)) (fun _=>HT.out) ?_
  simp only [Za,Zb,Zc]
  refine till_pure (i:=4) (v:=.pointer (some ⟨gS,3,none⟩)) rfl rfl (by kernel_rfl) (fun _ _ _ h=>h) (yields_of rfl (fun w' _=>by simp [go_sem])) (fun _=>HT.out) ?_
  simp only [Za,Zb,Zc]
  refine till_load (i:=5) (v:=.agg #[Z O wl,Z O wh]) rfl rfl (by kernel_rfl) (fun _ _ _ h=>h) (yields_mid rfl 32 (.tmp 15) rfl (gS) 3 rfl [Z O wl,Z O wh] _ (fun w' hw'=>Blk.range hw'.2 3 _ rfl) Try.underlying32 rfl (by kernel_rfl)) (fun _=>HT.out) ?_
  simp only [Za,Zb,Zc]
  refine till_two (i:=6) (j:=8) (by kernel_rfl) rfl rfl ?_ ?_
  ·go_wp2_with (go_at_call 100;refine(difference_up HUA.out (by decide) HUW.out HV8.out Ed1.out _).mono ?_;rintro e v1 ⟨rfl,hb⟩;have DK5:=Zh (DK4.out.below hb);clear hb)
   have HT:=MK1 v1 ⟨(DK5.out.loc 0 _ _ _ rfl).1,(DK5.out.loc 1 _ _ _ rfl).1⟩
   refine⟨fun _=>HT.out,?_⟩
   try simp only [Za,Zb,Zc]
   refine till_two (i:=7) (j:=8) (by kernel_rfl) rfl rfl ?_ ?_
   ·go_wp2_with (go_at_call 105;refine(common_fit HFD.out HF1.out Em1.out _).mono ?_;rintro e v2 ⟨rfl,hb⟩;have DK6:=Zh (DK5.out.below hb);clear hb)
    have HT:=MK1 v2 ⟨(DK6.out.loc 0 _ _ _ rfl).1,(DK6.out.loc 1 _ _ _ rfl).1⟩
    refine⟨fun _=>HT.out,?_⟩
    try simp only [Za,Zb,Zc]
    refine till_only (j:=8) (by kernel_rfl) rfl ?_
    go_wp2_with fail
    have DK7:=Zh (p:=Desk w (v2.alloc (.cells #[Z O 0,Z O 0] 32)) (fun _=>False) C B bef aft l c made N kv tv m [(gD,55,[Z O kind,Z O day,Zs code,Zs other,Z O al,Z O ah,Z O bl,Z O bh]),(gS,49,[Zs code,Z O dl,Z O dh,Z O wl,Z O wh,Z O pil,Z O boi,Zl fa fn fc]),(v2.heap.size,32,[Z O 0,Z O 0])]) (DK6.out.alloc 32 [Z O 0,Z O 0] rfl)
    generalize World.alloc _ _=v3 at DK7 ⊢
    generalize v2.heap.size=gX at DK7 ⊢
    have HT:=MK1 v3 ⟨(DK7.out.loc 0 _ _ _ rfl).1,(DK7.out.loc 1 _ _ _ rfl).1⟩
    refine⟨fun _=>HT.out,?_⟩
    try simp only [Za,Zb,Zc]
    refine till_only (j:=9) (by kernel_rfl) rfl ?_
    have HE:=Zh (p:=v3.there gX 0 2) ((DK7.out.loc 2 _ _ _ rfl).1.there (o:=0) (n:=2) (Zn rfl))
    refine Zw rfl 32 (.tmp 5) (.tmp 18) rfl gX 0 #[Z O m1.lo,Z O m1.hi] rfl rfl HE.out size_bounds (by simp [Value.oneCell']) ?_
    change wpList _ _ _ _ _ (v3.setCells gX 0 [Z O m1.lo,Z O m1.hi])
    clear HE
    have DK8:=Zh (p:=Desk w (v3.setCells gX 0 [Z O m1.lo,Z O m1.hi]) (fun _=>False) C B bef aft l c made N kv tv m [(gD,55,[Z O kind,Z O day,Zs code,Zs other,Z O al,Z O ah,Z O bl,Z O bh]),(gS,49,[Zs code,Z O dl,Z O dh,Z O wl,Z O wh,Z O pil,Z O boi,Zl fa fn fc]),(gX,32,[Z O m1.lo,Z O m1.hi])]) (DK7.out.put 2 0 _ rfl)
    clear DK7
    generalize World.setCells _ _ _ _=v4 at DK8 ⊢
    change Till _ _ _ _∧wpAnyT _ _ _ _ _ _ _ _ _ _
    refine⟨fun h=>by simp at h,?_⟩
    try simp only [Za,Zb,Zc]
    refine till_done (by kernel_rfl) ?_
    go_wp2_with fail
    go_meet
    case rel=>exact⟨_,rfl,DK8⟩
   ·go_wp2_with fail
    have DK6:=Zh (p:=Desk w (v1.alloc (.cells #[Z O 0,Z O 0] 32)) (fun _=>False) C B bef aft l c made N kv tv m [(gD,55,[Z O kind,Z O day,Zs code,Zs other,Z O al,Z O ah,Z O bl,Z O bh]),(gS,49,[Zs code,Z O dl,Z O dh,Z O wl,Z O wh,Z O pil,Z O boi,Zl fa fn fc]),(v1.heap.size,32,[Z O 0,Z O 0])]) (DK5.out.alloc 32 [Z O 0,Z O 0] rfl)
    generalize World.alloc _ _=v2 at DK6 ⊢
    generalize v1.heap.size=gX at DK6 ⊢
    have HT:=MK1 v2 ⟨(DK6.out.loc 0 _ _ _ rfl).1,(DK6.out.loc 1 _ _ _ rfl).1⟩
    refine⟨fun _=>HT.out,?_⟩
    try simp only [Za,Zb,Zc]
    refine till_only (j:=7) (by kernel_rfl) rfl ?_
    go_wp2_with (go_at_call 105;refine(common_fit HFD.out HF1.out Em1.out _).mono ?_;rintro e v3 ⟨rfl,hb⟩;have DK7:=Zh (DK6.out.below hb);clear hb)
    have HT:=MK1 v3 ⟨(DK7.out.loc 0 _ _ _ rfl).1,(DK7.out.loc 1 _ _ _ rfl).1⟩
    refine⟨fun _=>HT.out,?_⟩
    try simp only [Za,Zb,Zc]
    refine till_only (j:=9) (by kernel_rfl) rfl ?_
    have HE:=Zh (p:=v3.there gX 0 2) ((DK7.out.loc 2 _ _ _ rfl).1.there (o:=0) (n:=2) (Zn rfl))
    refine Zw rfl 32 (.tmp 5) (.tmp 18) rfl gX 0 #[Z O m1.lo,Z O m1.hi] rfl rfl HE.out size_bounds (by simp [Value.oneCell']) ?_
    change wpList _ _ _ _ _ (v3.setCells gX 0 [Z O m1.lo,Z O m1.hi])
    clear HE
    have DK8:=Zh (p:=Desk w (v3.setCells gX 0 [Z O m1.lo,Z O m1.hi]) (fun _=>False) C B bef aft l c made N kv tv m [(gD,55,[Z O kind,Z O day,Zs code,Zs other,Z O al,Z O ah,Z O bl,Z O bh]),(gS,49,[Zs code,Z O dl,Z O dh,Z O wl,Z O wh,Z O pil,Z O boi,Zl fa fn fc]),(gX,32,[Z O m1.lo,Z O m1.hi])]) (DK7.out.put 2 0 _ rfl)
    clear DK7
    generalize World.setCells _ _ _ _=v4 at DK8 ⊢
    change Till _ _ _ _∧wpAnyT _ _ _ _ _ _ _ _ _ _
    refine⟨fun h=>by simp at h,?_⟩
    try simp only [Za,Zb,Zc]
    refine till_done (by kernel_rfl) ?_
    go_wp2_with fail
    go_meet
    case rel=>exact⟨_,rfl,DK8⟩
  ·go_wp2_with fail
   have DK5:=Zh (p:=Desk w (v0.alloc (.cells #[Z O 0,Z O 0] 32)) (fun _=>False) C B bef aft l c made N kv tv m [(gD,55,[Z O kind,Z O day,Zs code,Zs other,Z O al,Z O ah,Z O bl,Z O bh]),(gS,49,[Zs code,Z O dl,Z O dh,Z O wl,Z O wh,Z O pil,Z O boi,Zl fa fn fc]),(v0.heap.size,32,[Z O 0,Z O 0])]) (DK4.out.alloc 32 [Z O 0,Z O 0] rfl)
   generalize World.alloc _ _=v1 at DK5 ⊢
   generalize v0.heap.size=gX at DK5 ⊢
   have HT:=MK1 v1 ⟨(DK5.out.loc 0 _ _ _ rfl).1,(DK5.out.loc 1 _ _ _ rfl).1⟩
   refine⟨fun _=>HT.out,?_⟩
   try simp only [Za,Zb,Zc]
   refine till_only (j:=6) (by kernel_rfl) rfl ?_
   go_wp2_with (go_at_call 100;refine(difference_up HUA.out (by decide) HUW.out HV8.out Ed1.out _).mono ?_;rintro e v2 ⟨rfl,hb⟩;have DK6:=Zh (DK5.out.below hb);clear hb)
   have HT:=MK1 v2 ⟨(DK6.out.loc 0 _ _ _ rfl).1,(DK6.out.loc 1 _ _ _ rfl).1⟩
   refine⟨fun _=>HT.out,?_⟩
   try simp only [Za,Zb,Zc]
   refine till_only (j:=7) (by kernel_rfl) rfl ?_
   go_wp2_with (go_at_call 105;refine(common_fit HFD.out HF1.out Em1.out _).mono ?_;rintro e v3 ⟨rfl,hb⟩;have DK7:=Zh (DK6.out.below hb);clear hb)
   have HT:=MK1 v3 ⟨(DK7.out.loc 0 _ _ _ rfl).1,(DK7.out.loc 1 _ _ _ rfl).1⟩
   refine⟨fun _=>HT.out,?_⟩
   try simp only [Za,Zb,Zc]
   refine till_only (j:=9) (by kernel_rfl) rfl ?_
   have HE:=Zh (p:=v3.there gX 0 2) ((DK7.out.loc 2 _ _ _ rfl).1.there (o:=0) (n:=2) (Zn rfl))
   refine Zw rfl 32 (.tmp 5) (.tmp 18) rfl gX 0 #[Z O m1.lo,Z O m1.hi] rfl rfl HE.out size_bounds (by simp [Value.oneCell']) ?_
   change wpList _ _ _ _ _ (v3.setCells gX 0 [Z O m1.lo,Z O m1.hi])
   clear HE
   have DK8:=Zh (p:=Desk w (v3.setCells gX 0 [Z O m1.lo,Z O m1.hi]) (fun _=>False) C B bef aft l c made N kv tv m [(gD,55,[Z O kind,Z O day,Zs code,Zs other,Z O al,Z O ah,Z O bl,Z O bh]),(gS,49,[Zs code,Z O dl,Z O dh,Z O wl,Z O wh,Z O pil,Z O boi,Zl fa fn fc]),(gX,32,[Z O m1.lo,Z O m1.hi])]) (DK7.out.put 2 0 _ rfl)
   clear DK7
   generalize World.setCells _ _ _ _=v4 at DK8 ⊢
   change Till _ _ _ _∧wpAnyT _ _ _ _ _ _ _ _ _ _
   refine⟨fun h=>by simp at h,?_⟩
   try simp only [Za,Zb,Zc]
   refine till_done (by kernel_rfl) ?_
   go_wp2_with fail
   go_meet
   case rel=>exact⟨_,rfl,DK8⟩
 case rest =>
  obtain⟨gX,rfl,DK4⟩:=hcut
  obtain⟨v8,hv8⟩:∃ v,v=wc:=⟨_,rfl⟩
  rw [← hv8]at DK4 ⊢
  clear hv8 DK3
  go_upto_region 3 with fail
  go_cut [6]from 19 to 26 (fun u wx => ∃ gY:Nat,u=.pointer (some ⟨gY,0,none⟩)∧Hid (Desk w wx (fun _=>False) C B bef aft l c made N kv tv m [(gD,55,[Z O kind,Z O day,Zs code,Zs other,Z O al,Z O ah,Z O bl,Z O bh]),(gS,49,[Zs code,Z O dl,Z O dh,Z O wl,Z O wh,Z O pil,Z O boi,Zl fa fn fc]),(gX,32,[Z O m1.lo,Z O m1.hi]),(gY,32,[Z O m2.lo,Z O m2.hi])]))
  case first =>
   refine region_till [9] (fun w'=>Blk w' gD 55 #[Z O kind,Z O day,Zs code,Zs other,Z O al,Z O ah,Z O bl,Z O bh]∧Blk w' gS 49 #[Zs code,Z O dl,Z O dh,Z O wl,Z O wh,Z O pil,Z O boi,Zl fa fn fc]) 10 [false,false,false,false,false,false,false,false,false,false] (by kernel_rfl) rfl rfl ?_
   have MK2:=fun(W:World) (h:(fun w'=>Blk w' gD 55 #[Z O kind,Z O day,Zs code,Zs other,Z O al,Z O ah,Z O bl,Z O bh]∧Blk w' gS 49 #[Zs code,Z O dl,Z O dh,Z O wl,Z O wh,Z O pil,Z O boi,Zl fa fn fc]) W)=>Zh h
   have DK5:=Zh (DK4.out.drew)
   clear DK4
   generalize v8.drew=v9 at DK5 ⊢
   have HT:=MK2 v9 ⟨(DK5.out.loc 0 _ _ _ rfl).1,(DK5.out.loc 1 _ _ _ rfl).1⟩
   refine till_pure (i:=0) (v:=.pointer (some ⟨gS,3,none⟩)) rfl rfl (by kernel_rfl) (fun _ _ _ h=>h) (yields_of rfl (fun w' _=>by simp [go_sem])) (fun _=>HT.out) ?_
   simp only [Za,Zb,Zc]
   refine till_load (i:=1) (v:=.agg #[Z O wl,Z O wh]) rfl rfl (by kernel_rfl) (fun _ _ _ h=>h) (yields_mid rfl 32 (.tmp 19) rfl (gS) 3 rfl [Z O wl,Z O wh] _ (fun w' hw'=>Blk.range hw'.2 3 _ rfl) Try.underlying32 rfl (by kernel_rfl)) (fun _=>HT.out) ?_
   simp only [Za,Zb,Zc]
   refine till_pure (i:=2) (v:=.pointer (some ⟨gD,4,none⟩)) rfl rfl (by kernel_rfl) (fun _ _ _ h=>h) (yields_of rfl (fun w' _=>by simp [go_sem])) (fun _=>HT.out) ?_
   simp only [Za,Zb,Zc]
   refine till_load (i:=3) (v:=.agg #[Z O al,Z O ah]) rfl rfl (by kernel_rfl) (fun _ _ _ h=>h) (yields_mid rfl 32 (.tmp 21) rfl (gD) 4 rfl [Z O al,Z O ah] _ (fun w' hw'=>Blk.range hw'.1 4 _ rfl) Try.underlying32 rfl (by kernel_rfl)) (fun _=>HT.out) ?_
   simp only [Za,Zb,Zc]
   refine till_pure (i:=4) (v:=.pointer (some ⟨gS,1,none⟩)) rfl rfl (by kernel_rfl) (fun _ _ _ h=>h) (yields_of rfl (fun w' _=>by simp [go_sem])) (fun _=>HT.out) ?_
   simp only [Za,Zb,Zc]
   refine till_load (i:=5) (v:=.agg #[Z O dl,Z O dh]) rfl rfl (by kernel_rfl) (fun _ _ _ h=>h) (yields_mid rfl 32 (.tmp 23) rfl (gS) 1 rfl [Z O dl,Z O dh] _ (fun w' hw'=>Blk.range hw'.2 1 _ rfl) Try.underlying32 rfl (by kernel_rfl)) (fun _=>HT.out) ?_
   simp only [Za,Zb,Zc]
   refine till_two (i:=6) (j:=8) (by kernel_rfl) rfl rfl ?_ ?_
   ·go_wp2_with (go_at_call 100;refine(difference_up HUA.out (by decide) HUD.out HV8.out Ed2.out _).mono ?_;rintro e v10 ⟨rfl,hb⟩;have DK6:=Zh (DK5.out.below hb);clear hb)
    have HT:=MK2 v10 ⟨(DK6.out.loc 0 _ _ _ rfl).1,(DK6.out.loc 1 _ _ _ rfl).1⟩
    refine⟨fun _=>HT.out,?_⟩
    try simp only [Za,Zb,Zc]
    refine till_two (i:=7) (j:=8) (by kernel_rfl) rfl rfl ?_ ?_
    ·go_wp2_with (go_at_call 105;refine(common_fit HFW.out HF2.out Em2.out _).mono ?_;rintro e v11 ⟨rfl,hb⟩;have DK7:=Zh (DK6.out.below hb);clear hb)
     have HT:=MK2 v11 ⟨(DK7.out.loc 0 _ _ _ rfl).1,(DK7.out.loc 1 _ _ _ rfl).1⟩
     refine⟨fun _=>HT.out,?_⟩
     try simp only [Za,Zb,Zc]
     refine till_only (j:=8) (by kernel_rfl) rfl ?_
     go_wp2_with fail
     have DK8:=Zh (p:=Desk w (v11.alloc (.cells #[Z O 0,Z O 0] 32)) (fun _=>False) C B bef aft l c made N kv tv m [(gD,55,[Z O kind,Z O day,Zs code,Zs other,Z O al,Z O ah,Z O bl,Z O bh]),(gS,49,[Zs code,Z O dl,Z O dh,Z O wl,Z O wh,Z O pil,Z O boi,Zl fa fn fc]),(gX,32,[Z O m1.lo,Z O m1.hi]),(v11.heap.size,32,[Z O 0,Z O 0])]) (DK7.out.alloc 32 [Z O 0,Z O 0] rfl)
     generalize World.alloc _ _=v12 at DK8 ⊢
     generalize v11.heap.size=gY at DK8 ⊢
     have HT:=MK2 v12 ⟨(DK8.out.loc 0 _ _ _ rfl).1,(DK8.out.loc 1 _ _ _ rfl).1⟩
     refine⟨fun _=>HT.out,?_⟩
     try simp only [Za,Zb,Zc]
     refine till_only (j:=9) (by kernel_rfl) rfl ?_
     have HE:=Zh (p:=v12.there gY 0 2) ((DK8.out.loc 3 _ _ _ rfl).1.there (o:=0) (n:=2) (Zn rfl))
     refine Zw rfl 32 (.tmp 6) (.tmp 26) rfl gY 0 #[Z O m2.lo,Z O m2.hi] rfl rfl HE.out size_bounds (by simp [Value.oneCell']) ?_
     change wpList _ _ _ _ _ (v12.setCells gY 0 [Z O m2.lo,Z O m2.hi])
     clear HE
     have DK9:=Zh (p:=Desk w (v12.setCells gY 0 [Z O m2.lo,Z O m2.hi]) (fun _=>False) C B bef aft l c made N kv tv m [(gD,55,[Z O kind,Z O day,Zs code,Zs other,Z O al,Z O ah,Z O bl,Z O bh]),(gS,49,[Zs code,Z O dl,Z O dh,Z O wl,Z O wh,Z O pil,Z O boi,Zl fa fn fc]),(gX,32,[Z O m1.lo,Z O m1.hi]),(gY,32,[Z O m2.lo,Z O m2.hi])]) (DK8.out.put 3 0 _ rfl)
     clear DK8
     generalize World.setCells _ _ _ _=v13 at DK9 ⊢
     change Till _ _ _ _∧wpAnyT _ _ _ _ _ _ _ _ _ _
     refine⟨fun h=>by simp at h,?_⟩
     try simp only [Za,Zb,Zc]
     refine till_done (by kernel_rfl) ?_
     go_wp2_with fail
     go_meet
     case rel=>exact⟨_,rfl,DK9⟩
    ·go_wp2_with fail
     have DK7:=Zh (p:=Desk w (v10.alloc (.cells #[Z O 0,Z O 0] 32)) (fun _=>False) C B bef aft l c made N kv tv m [(gD,55,[Z O kind,Z O day,Zs code,Zs other,Z O al,Z O ah,Z O bl,Z O bh]),(gS,49,[Zs code,Z O dl,Z O dh,Z O wl,Z O wh,Z O pil,Z O boi,Zl fa fn fc]),(gX,32,[Z O m1.lo,Z O m1.hi]),(v10.heap.size,32,[Z O 0,Z O 0])]) (DK6.out.alloc 32 [Z O 0,Z O 0] rfl)
     generalize World.alloc _ _=v11 at DK7 ⊢
     generalize v10.heap.size=gY at DK7 ⊢
     have HT:=MK2 v11 ⟨(DK7.out.loc 0 _ _ _ rfl).1,(DK7.out.loc 1 _ _ _ rfl).1⟩
     refine⟨fun _=>HT.out,?_⟩
     try simp only [Za,Zb,Zc]
     refine till_only (j:=7) (by kernel_rfl) rfl ?_
     go_wp2_with (go_at_call 105;refine(common_fit HFW.out HF2.out Em2.out _).mono ?_;rintro e v12 ⟨rfl,hb⟩;have DK8:=Zh (DK7.out.below hb);clear hb)
     have HT:=MK2 v12 ⟨(DK8.out.loc 0 _ _ _ rfl).1,(DK8.out.loc 1 _ _ _ rfl).1⟩
     refine⟨fun _=>HT.out,?_⟩
     try simp only [Za,Zb,Zc]
     refine till_only (j:=9) (by kernel_rfl) rfl ?_
     have HE:=Zh (p:=v12.there gY 0 2) ((DK8.out.loc 3 _ _ _ rfl).1.there (o:=0) (n:=2) (Zn rfl))
     refine Zw rfl 32 (.tmp 6) (.tmp 26) rfl gY 0 #[Z O m2.lo,Z O m2.hi] rfl rfl HE.out size_bounds (by simp [Value.oneCell']) ?_
     change wpList _ _ _ _ _ (v12.setCells gY 0 [Z O m2.lo,Z O m2.hi])
     clear HE
     have DK9:=Zh (p:=Desk w (v12.setCells gY 0 [Z O m2.lo,Z O m2.hi]) (fun _=>False) C B bef aft l c made N kv tv m [(gD,55,[Z O kind,Z O day,Zs code,Zs other,Z O al,Z O ah,Z O bl,Z O bh]),(gS,49,[Zs code,Z O dl,Z O dh,Z O wl,Z O wh,Z O pil,Z O boi,Zl fa fn fc]),(gX,32,[Z O m1.lo,Z O m1.hi]),(gY,32,[Z O m2.lo,Z O m2.hi])]) (DK8.out.put 3 0 _ rfl)
     clear DK8
     generalize World.setCells _ _ _ _=v13 at DK9 ⊢
     change Till _ _ _ _∧wpAnyT _ _ _ _ _ _ _ _ _ _
     refine⟨fun h=>by simp at h,?_⟩
     try simp only [Za,Zb,Zc]
     refine till_done (by kernel_rfl) ?_
     go_wp2_with fail
     go_meet
     case rel=>exact⟨_,rfl,DK9⟩
   ·go_wp2_with fail
    have DK6:=Zh (p:=Desk w (v9.alloc (.cells #[Z O 0,Z O 0] 32)) (fun _=>False) C B bef aft l c made N kv tv m [(gD,55,[Z O kind,Z O day,Zs code,Zs other,Z O al,Z O ah,Z O bl,Z O bh]),(gS,49,[Zs code,Z O dl,Z O dh,Z O wl,Z O wh,Z O pil,Z O boi,Zl fa fn fc]),(gX,32,[Z O m1.lo,Z O m1.hi]),(v9.heap.size,32,[Z O 0,Z O 0])]) (DK5.out.alloc 32 [Z O 0,Z O 0] rfl)
    generalize World.alloc _ _=v10 at DK6 ⊢
    generalize v9.heap.size=gY at DK6 ⊢
    have HT:=MK2 v10 ⟨(DK6.out.loc 0 _ _ _ rfl).1,(DK6.out.loc 1 _ _ _ rfl).1⟩
    refine⟨fun _=>HT.out,?_⟩
    try simp only [Za,Zb,Zc]
    refine till_only (j:=6) (by kernel_rfl) rfl ?_
    go_wp2_with (go_at_call 100;refine(difference_up HUA.out (by decide) HUD.out HV8.out Ed2.out _).mono ?_;rintro e v11 ⟨rfl,hb⟩;have DK7:=Zh (DK6.out.below hb);clear hb)
    have HT:=MK2 v11 ⟨(DK7.out.loc 0 _ _ _ rfl).1,(DK7.out.loc 1 _ _ _ rfl).1⟩
    refine⟨fun _=>HT.out,?_⟩
    try simp only [Za,Zb,Zc]
    refine till_only (j:=7) (by kernel_rfl) rfl ?_
    go_wp2_with (go_at_call 105;refine(common_fit HFW.out HF2.out Em2.out _).mono ?_;rintro e v12 ⟨rfl,hb⟩;have DK8:=Zh (DK7.out.below hb);clear hb)
    have HT:=MK2 v12 ⟨(DK8.out.loc 0 _ _ _ rfl).1,(DK8.out.loc 1 _ _ _ rfl).1⟩
    refine⟨fun _=>HT.out,?_⟩
    try simp only [Za,Zb,Zc]
    refine till_only (j:=9) (by kernel_rfl) rfl ?_
    have HE:=Zh (p:=v12.there gY 0 2) ((DK8.out.loc 3 _ _ _ rfl).1.there (o:=0) (n:=2) (Zn rfl))
    refine Zw rfl 32 (.tmp 6) (.tmp 26) rfl gY 0 #[Z O m2.lo,Z O m2.hi] rfl rfl HE.out size_bounds (by simp [Value.oneCell']) ?_
    change wpList _ _ _ _ _ (v12.setCells gY 0 [Z O m2.lo,Z O m2.hi])
    clear HE
    have DK9:=Zh (p:=Desk w (v12.setCells gY 0 [Z O m2.lo,Z O m2.hi]) (fun _=>False) C B bef aft l c made N kv tv m [(gD,55,[Z O kind,Z O day,Zs code,Zs other,Z O al,Z O ah,Z O bl,Z O bh]),(gS,49,[Zs code,Z O dl,Z O dh,Z O wl,Z O wh,Z O pil,Z O boi,Zl fa fn fc]),(gX,32,[Z O m1.lo,Z O m1.hi]),(gY,32,[Z O m2.lo,Z O m2.hi])]) (DK8.out.put 3 0 _ rfl)
    clear DK8
    generalize World.setCells _ _ _ _=v13 at DK9 ⊢
    change Till _ _ _ _∧wpAnyT _ _ _ _ _ _ _ _ _ _
    refine⟨fun h=>by simp at h,?_⟩
    try simp only [Za,Zb,Zc]
    refine till_done (by kernel_rfl) ?_
    go_wp2_with fail
    go_meet
    case rel=>exact⟨_,rfl,DK9⟩
  case rest =>
   obtain⟨gY,rfl,DK5⟩:=hcut
   have x0:=DK5.out.at 2 0 (v:=Z O m1.lo) rfl rfl
   have x1:=DK5.out.at 2 1 (v:=Z O m1.hi) rfl rfl
   have y0:=DK5.out.at 3 0 (v:=Z O m2.lo) rfl rfl
   have y1:=DK5.out.at 3 1 (v:=Z O m2.hi) rfl rfl
   go_upto_region 5 with(go_at_call 98;refine(need_true _ _).mono ?_;rintro e w2 ⟨rfl,rfl⟩)
   clear x0 x1 y0 y1
   refine region_till [5] (fun w'=>Blk w' gX 32 #[Z O m1.lo,Z O m1.hi]∧Blk w' gY 32 #[Z O m2.lo,Z O m2.hi]) 6 [false,false,false,false,false,false] (by kernel_rfl) rfl rfl ?_
   have MK3:=fun(W:World) (h:(fun w'=>Blk w' gX 32 #[Z O m1.lo,Z O m1.hi]∧Blk w' gY 32 #[Z O m2.lo,Z O m2.hi]) W)=>Zh h
   have DK6:=Zh (DK5.out.drew)
   clear DK5
   generalize wc.drew=v9 at DK6 ⊢
   have HT:=MK3 v9 ⟨(DK6.out.loc 2 _ _ _ rfl).1,(DK6.out.loc 3 _ _ _ rfl).1⟩
   refine till_load (i:=0) (v:=.agg #[Z O m1.lo,Z O m1.hi]) rfl rfl (by kernel_rfl) (fun _ _ _ h=>h) (yields_mid rfl 32 (.tmp 5) rfl (gX) 0 rfl [Z O m1.lo,Z O m1.hi] _ (fun w' hw'=>Blk.range hw'.1 0 _ rfl) Try.underlying32 rfl (by kernel_rfl)) (fun _=>HT.out) ?_
   simp only [Za,Zb,Zc]
   refine till_load (i:=1) (v:=.agg #[Z O m2.lo,Z O m2.hi]) rfl rfl (by kernel_rfl) (fun _ _ _ h=>h) (yields_mid rfl 32 (.tmp 6) rfl (gY) 0 rfl [Z O m2.lo,Z O m2.hi] _ (fun w' hw'=>Blk.range hw'.2 0 _ rfl) Try.underlying32 rfl (by kernel_rfl)) (fun _=>HT.out) ?_
   simp only [Za,Zb,Zc]
   refine till_pure (i:=2) (v:=.pointer (some ⟨gS,1,none⟩)) rfl rfl (by kernel_rfl) (fun _ _ _ h=>h) (yields_of rfl (fun w' _=>by simp [go_sem])) (fun _=>HT.out) ?_
   simp only [Za,Zb,Zc]
   refine till_only (j:=3) (by kernel_rfl) rfl ?_
   have HE:=Zh (p:=v9.there gS 1 2) ((DK6.out.loc 1 _ _ _ rfl).1.there (o:=1) (n:=2) (Zn rfl))
   refine Zw rfl 32 (.tmp 42) (.tmp 40) rfl gS 1 #[Z O m1.lo,Z O m1.hi] rfl rfl HE.out size_bounds (by simp [Value.oneCell']) ?_
   change wpList _ _ _ _ _ (v9.setCells gS 1 [Z O m1.lo,Z O m1.hi])
   clear HE
   have DK7:=Zh (p:=Desk w (v9.setCells gS 1 [Z O m1.lo,Z O m1.hi]) (fun _=>False) C B bef aft l c made N kv tv m [(gD,55,[Z O kind,Z O day,Zs code,Zs other,Z O al,Z O ah,Z O bl,Z O bh]),(gS,49,[Zs code,Z O m1.lo,Z O m1.hi,Z O wl,Z O wh,Z O pil,Z O boi,Zl fa fn fc]),(gX,32,[Z O m1.lo,Z O m1.hi]),(gY,32,[Z O m2.lo,Z O m2.hi])]) (DK6.out.put 1 1 _ rfl)
   clear DK6
   generalize World.setCells _ _ _ _=v10 at DK7 ⊢
   change Till _ _ _ _∧wpAnyT _ _ _ _ _ _ _ _ _ _
   have HT:=MK3 v10 ⟨(DK7.out.loc 2 _ _ _ rfl).1,(DK7.out.loc 3 _ _ _ rfl).1⟩
   refine⟨fun _=>HT.out,?_⟩
   try simp only [Za,Zb,Zc]
   refine till_pure (i:=4) (v:=.pointer (some ⟨gS,3,none⟩)) rfl rfl (by kernel_rfl) (fun _ _ _ h=>h) (yields_of rfl (fun w' _=>by simp [go_sem])) (fun _=>HT.out) ?_
   simp only [Za,Zb,Zc]
   refine till_only (j:=5) (by kernel_rfl) rfl ?_
   have HE:=Zh (p:=v10.there gS 3 2) ((DK7.out.loc 1 _ _ _ rfl).1.there (o:=3) (n:=2) (Zn rfl))
   refine Zw rfl 32 (.tmp 43) (.tmp 41) rfl gS 3 #[Z O m2.lo,Z O m2.hi] rfl rfl HE.out size_bounds (by simp [Value.oneCell']) ?_
   change wpList _ _ _ _ _ (v10.setCells gS 3 [Z O m2.lo,Z O m2.hi])
   clear HE
   have DK8:=Zh (p:=Desk w (v10.setCells gS 3 [Z O m2.lo,Z O m2.hi]) (fun _=>False) C B bef aft l c made N kv tv m [(gD,55,[Z O kind,Z O day,Zs code,Zs other,Z O al,Z O ah,Z O bl,Z O bh]),(gS,49,[Zs code,Z O m1.lo,Z O m1.hi,Z O m2.lo,Z O m2.hi,Z O pil,Z O boi,Zl fa fn fc]),(gX,32,[Z O m1.lo,Z O m1.hi]),(gY,32,[Z O m2.lo,Z O m2.hi])]) (DK7.out.put 1 3 _ rfl)
   clear DK7
   generalize World.setCells _ _ _ _=v11 at DK8 ⊢
   change Till _ _ _ _∧wpAnyT _ _ _ _ _ _ _ _ _ _
   refine⟨fun h=>by simp at h,?_⟩
   try simp only [Za,Zb,Zc]
   refine till_done (by kernel_rfl) ?_
   have s0:=DK8.out.at 1 0 (v:=Zs code) rfl rfl
   have s1:=DK8.out.at 1 1 (v:=Z O m1.lo) rfl rfl
   have s2:=DK8.out.at 1 2 (v:=Z O m1.hi) rfl rfl
   have s3:=DK8.out.at 1 3 (v:=Z O m2.lo) rfl rfl
   have s4:=DK8.out.at 1 4 (v:=Z O m2.hi) rfl rfl
   have s5:=DK8.out.at 1 5 (v:=Z O pil) rfl rfl
   have s6:=DK8.out.at 1 6 (v:=Z O boi) rfl rfl
   have s7:=DK8.out.at 1 7 (v:=Zl fa fn fc) rfl rfl
   go_wp2_with (go_at_call 93;refine(keep_old DK8.out.book ⟨code,m1,m2,pil,boi,src⟩ fa fn fc HP.out HK.out rfl (row_same (DK8.out.book.froms _ (List.mem_of_getElem? HP.out)) (fun _ _=>rfl)) (DK8.out.book.fromsLen _ (List.mem_of_getElem? HP.out))).mono ?_;rintro e w9 ⟨rfl,hb9,hk9⟩;have HB9:=Zh ((DK8.out.beside.mono (C1:=C) (fun _ f=>f.elim)).trans hb9 (fun k hk=>.inl hk));have HK9:=Zh hk9;clear hb9 hk9)
   go_end0
   have zd1:=Ed1.out;have zm1:=Em1.out;have zd2:=Ed2.out;have zm2:=Em2.out
   subst zm2 zd2 zm1 zd1
   exact⟨rfl,HB9.out,HK9.out⟩
theorem weigh_scale1 {w:World}{C:Nat→Prop}{B:Nat}{bef aft:Int}{l:List SRow}{c:Yd.Acc}{made:Int}{N:Nat}{kv tv:Value}{m:Nat}(h:Book w C B bef aft l c made N kv tv m)
  (kind day:Int) (code other:Code) (al ah bl bh:Int) (hs:code.size≤maxLen) (hC:∀ k,C k→k<w.heap.size) (dl dh wl wh pil boi:Int) (src:List Int) (fa:Option Addr) (fn fc:Nat) (V:Int) (hV:V≤2000000000000000) {k:Nat} (hk:ixOf l code=some k) (hp:l[k]? = some (⟨code,⟨dl,dh⟩,⟨wl,wh⟩,pil,boi,src⟩,Zl fa fn fc)) (ud:Bd.Up ⟨dl,dh⟩ V) (uw:Bd.Up ⟨wl,wh⟩ V) (ua:Bd.Up ⟨al,ah⟩ 100000000) (h1:¬ (Bd.weighed ⟨dl,dh⟩ ⟨wl,wh⟩ ⟨al,ah⟩).lo≤(Bd.weighed ⟨dl,dh⟩ ⟨wl,wh⟩ ⟨al,ah⟩).hi) :
  Calls Try.prog 90 #[.pointer (some ⟨B,0,none⟩),.agg #[Z O kind,Z O day,Zs code,Zs other,Z O al,Z O ah,Z O bl,Z O bh]] w fun e w'=>e=.panicked (faulty 5)∧Below w.heap.size w w':=by
 have HUD:=Zh ud;have HUW:=Zh uw;have HUA:=Zh ua
 have HV8:=Zh (p:=V≤8000000000000000) (Int.le_trans hV (by decide))
 have HF1:=Zh (sub_fit ua (by decide) uw HV8.out);have HF2:=Zh (sub_fit ua (by decide) ud HV8.out)
 have HFD:=Zh (fit_of_up ud (show V≤4000000000000000000 from Int.le_trans hV (by decide)));have HFW:=Zh (fit_of_up uw (show V≤4000000000000000000 from Int.le_trans hV (by decide)))
 clear ud uw ua
 obtain⟨d1,hd1⟩:∃ b:Bd,b=Bd.sub ⟨al,ah⟩ ⟨wl,wh⟩:=⟨_,rfl⟩
 have Ed1:=Zh hd1;clear hd1
 obtain⟨m1,hm1⟩:∃ b:Bd,b=Bd.meet ⟨dl,dh⟩ d1:=⟨_,rfl⟩
 have Em1:=Zh hm1;clear hm1
 obtain⟨d2,hd2⟩:∃ b:Bd,b=Bd.sub ⟨al,ah⟩ ⟨dl,dh⟩:=⟨_,rfl⟩
 have Ed2:=Zh hd2;clear hd2
 obtain⟨m2,hm2⟩:∃ b:Bd,b=Bd.meet ⟨wl,wh⟩ d2:=⟨_,rfl⟩
 have Em2:=Zh hm2;clear hm2
 rw [← Ed1.out]at HF1
 rw [← Ed2.out]at HF2
 have b1:decide (m1.lo≤m1.hi)=false:=by rw [Em1.out,Ed1.out];exact decide_eq_false h1
 clear h1
 have DK1:=Zh (boxed_deed h hC [Z O kind,Z O day,Zs code,Zs other,Z O al,Z O ah,Z O bl,Z O bh])
 have hz1:(w.alloc (.cells #[Z O kind,Z O day,Zs code,Zs other,Z O al,Z O ah,Z O bl,Z O bh] 55)).heap.size=w.heap.size+1:=World.size_alloc _ _
 have HS:=Zh hs;have HK:=Zh hk;have HP:=Zh hp;have HC:=Zh hC
 clear h hs hk hp hC
 go_enter Try.func90,Try.ntmps90
 go_upto_region 2 with(first
  | (go_at_call 94;refine(stack_yes DK1.out.book code HS.out HK.out HP.out).mono ?_;rintro e w1 ⟨rfl,hb1⟩;have DK2:=Zh ((DK1.out.below hb1).alloc 49 [Zs ⟨#[]⟩,Z O 0,Z O 0,Z O 0,Z O 0,Z O 0,Z O 0,Zl none 0 0] rfl);clear hb1)
  | ((with_reducible refine at_store 49 (.tmp 4) (.tmp 10) ?_);go_must (refine Zw rfl 49 (.tmp 4) (.tmp 10) rfl w1.heap.size 0 #[Zs code,Z O dl,Z O dh,Z O wl,Z O wh,Z O pil,Z O boi,Zl fa fn fc] rfl rfl ((DK2.out.loc 1 _ _ _ rfl).1.there (o:=0) (n:=8) (Zn rfl)) size_stack (by simp [Value.oneCell']) ?_)))
 have hgS:=(DK2.out.far 1 rfl).1
 have DK3:=Zh (p:=Desk w ((w1.alloc (.cells #[Zs ⟨#[]⟩,Z O 0,Z O 0,Z O 0,Z O 0,Z O 0,Z O 0,Zl none 0 0] 49)).setCells w1.heap.size 0 [Zs code,Z O dl,Z O dh,Z O wl,Z O wh,Z O pil,Z O boi,Zl fa fn fc]) (fun _=>False) C B bef aft l c made N kv tv m [(w.heap.size,55,[Z O kind,Z O day,Zs code,Zs other,Z O al,Z O ah,Z O bl,Z O bh]),(w1.heap.size,49,[Zs code,Z O dl,Z O dh,Z O wl,Z O wh,Z O pil,Z O boi,Zl fa fn fc])]) (DK2.out.put 1 0 _ rfl)
 clear DK2
 generalize((w1.alloc (.cells #[Zs ⟨#[]⟩,Z O 0,Z O 0,Z O 0,Z O 0,Z O 0,Z O 0,Zl none 0 0] 49)).setCells w1.heap.size 0 [Zs code,Z O dl,Z O dh,Z O wl,Z O wh,Z O pil,Z O boi,Zl fa fn fc])=W3 at DK3 ⊢
 obtain⟨gD,hgD⟩:∃ g,g=w.heap.size:=⟨_,rfl⟩
 obtain⟨gS,hgS2⟩:∃ g,g=w1.heap.size:=⟨_,rfl⟩
 rw [← hgD,← hgS2]at DK3 ⊢
 have HZ:=Zh (And.intro hgD hgS2)
 clear hgD hgS2 hgS hz1
 simp only [Act.put]
 go_cut [5]from 11 to 18 (fun u wx => ∃ gX:Nat,u=.pointer (some ⟨gX,0,none⟩)∧Hid (Desk w wx (fun _=>False) C B bef aft l c made N kv tv m [(gD,55,[Z O kind,Z O day,Zs code,Zs other,Z O al,Z O ah,Z O bl,Z O bh]),(gS,49,[Zs code,Z O dl,Z O dh,Z O wl,Z O wh,Z O pil,Z O boi,Zl fa fn fc]),(gX,32,[Z O m1.lo,Z O m1.hi])]))
 case first =>
  refine region_till [9] (fun w'=>Blk w' gD 55 #[Z O kind,Z O day,Zs code,Zs other,Z O al,Z O ah,Z O bl,Z O bh]∧Blk w' gS 49 #[Zs code,Z O dl,Z O dh,Z O wl,Z O wh,Z O pil,Z O boi,Zl fa fn fc]) 10 [false,false,false,false,false,false,false,false,false,false] (by kernel_rfl) rfl rfl ?_
  have MK4:=fun(W:World) (h:(fun w'=>Blk w' gD 55 #[Z O kind,Z O day,Zs code,Zs other,Z O al,Z O ah,Z O bl,Z O bh]∧Blk w' gS 49 #[Zs code,Z O dl,Z O dh,Z O wl,Z O wh,Z O pil,Z O boi,Zl fa fn fc]) W)=>Zh h
  have DK4:=Zh (DK3.out.drew)
  clear DK3
  generalize W3.drew=v0 at DK4 ⊢
  have HT:=MK4 v0 ⟨(DK4.out.loc 0 _ _ _ rfl).1,(DK4.out.loc 1 _ _ _ rfl).1⟩
  refine till_pure (i:=0) (v:=.pointer (some ⟨gS,1,none⟩)) rfl rfl (by kernel_rfl) (fun _ _ _ h=>h) (yields_of rfl (fun w' _=>by simp [go_sem])) (fun _=>HT.out) ?_
  simp only [Za,Zb,Zc]
  refine till_load (i:=1) (v:=.agg #[Z O dl,Z O dh]) rfl rfl (by kernel_rfl) (fun _ _ _ h=>h) (yields_mid rfl 32 (.tmp 11) rfl (gS) 1 rfl [Z O dl,Z O dh] _ (fun w' hw'=>Blk.range hw'.2 1 _ rfl) Try.underlying32 rfl (by kernel_rfl)) (fun _=>HT.out) ?_
  simp only [Za,Zb,Zc]
  refine till_pure (i:=2) (v:=.pointer (some ⟨gD,4,none⟩)) rfl rfl (by kernel_rfl) (fun _ _ _ h=>h) (yields_of rfl (fun w' _=>by simp [go_sem])) (fun _=>HT.out) ?_
  simp only [Za,Zb,Zc]
  refine till_load (i:=3) (v:=.agg #[Z O al,Z O ah]) rfl rfl (by kernel_rfl) (fun _ _ _ h=>h) (yields_mid rfl 32 (.tmp 13) rfl (gD) 4 rfl [Z O al,Z O ah] _ (fun w' hw'=>Blk.range hw'.1 4 _ rfl) Try.underlying32 rfl (by kernel_rfl)) (fun _=>HT.out) ?_
  simp only [Za,Zb,Zc]
  refine till_pure (i:=4) (v:=.pointer (some ⟨gS,3,none⟩)) rfl rfl (by kernel_rfl) (fun _ _ _ h=>h) (yields_of rfl (fun w' _=>by simp [go_sem])) (fun _=>HT.out) ?_
  simp only [Za,Zb,Zc]
  refine till_load (i:=5) (v:=.agg #[Z O wl,Z O wh]) rfl rfl (by kernel_rfl) (fun _ _ _ h=>h) (yields_mid rfl 32 (.tmp 15) rfl (gS) 3 rfl [Z O wl,Z O wh] _ (fun w' hw'=>Blk.range hw'.2 3 _ rfl) Try.underlying32 rfl (by kernel_rfl)) (fun _=>HT.out) ?_
  simp only [Za,Zb,Zc]
  refine till_two (i:=6) (j:=8) (by kernel_rfl) rfl rfl ?_ ?_
  ·go_wp2_with (go_at_call 100;refine(difference_up HUA.out (by decide) HUW.out HV8.out Ed1.out _).mono ?_;rintro e v1 ⟨rfl,hb⟩;have DK5:=Zh (DK4.out.below hb);clear hb)
   have HT:=MK4 v1 ⟨(DK5.out.loc 0 _ _ _ rfl).1,(DK5.out.loc 1 _ _ _ rfl).1⟩
   refine⟨fun _=>HT.out,?_⟩
   try simp only [Za,Zb,Zc]
   refine till_two (i:=7) (j:=8) (by kernel_rfl) rfl rfl ?_ ?_
   ·go_wp2_with (go_at_call 105;refine(common_fit HFD.out HF1.out Em1.out _).mono ?_;rintro e v2 ⟨rfl,hb⟩;have DK6:=Zh (DK5.out.below hb);clear hb)
    have HT:=MK4 v2 ⟨(DK6.out.loc 0 _ _ _ rfl).1,(DK6.out.loc 1 _ _ _ rfl).1⟩
    refine⟨fun _=>HT.out,?_⟩
    try simp only [Za,Zb,Zc]
    refine till_only (j:=8) (by kernel_rfl) rfl ?_
    go_wp2_with fail
    have DK7:=Zh (p:=Desk w (v2.alloc (.cells #[Z O 0,Z O 0] 32)) (fun _=>False) C B bef aft l c made N kv tv m [(gD,55,[Z O kind,Z O day,Zs code,Zs other,Z O al,Z O ah,Z O bl,Z O bh]),(gS,49,[Zs code,Z O dl,Z O dh,Z O wl,Z O wh,Z O pil,Z O boi,Zl fa fn fc]),(v2.heap.size,32,[Z O 0,Z O 0])]) (DK6.out.alloc 32 [Z O 0,Z O 0] rfl)
    generalize World.alloc _ _=v3 at DK7 ⊢
    generalize v2.heap.size=gX at DK7 ⊢
    have HT:=MK4 v3 ⟨(DK7.out.loc 0 _ _ _ rfl).1,(DK7.out.loc 1 _ _ _ rfl).1⟩
    refine⟨fun _=>HT.out,?_⟩
    try simp only [Za,Zb,Zc]
    refine till_only (j:=9) (by kernel_rfl) rfl ?_
    have HE:=Zh (p:=v3.there gX 0 2) ((DK7.out.loc 2 _ _ _ rfl).1.there (o:=0) (n:=2) (Zn rfl))
    refine Zw rfl 32 (.tmp 5) (.tmp 18) rfl gX 0 #[Z O m1.lo,Z O m1.hi] rfl rfl HE.out size_bounds (by simp [Value.oneCell']) ?_
    change wpList _ _ _ _ _ (v3.setCells gX 0 [Z O m1.lo,Z O m1.hi])
    clear HE
    have DK8:=Zh (p:=Desk w (v3.setCells gX 0 [Z O m1.lo,Z O m1.hi]) (fun _=>False) C B bef aft l c made N kv tv m [(gD,55,[Z O kind,Z O day,Zs code,Zs other,Z O al,Z O ah,Z O bl,Z O bh]),(gS,49,[Zs code,Z O dl,Z O dh,Z O wl,Z O wh,Z O pil,Z O boi,Zl fa fn fc]),(gX,32,[Z O m1.lo,Z O m1.hi])]) (DK7.out.put 2 0 _ rfl)
    clear DK7
    generalize World.setCells _ _ _ _=v4 at DK8 ⊢
    change Till _ _ _ _∧wpAnyT _ _ _ _ _ _ _ _ _ _
    refine⟨fun h=>by simp at h,?_⟩
    try simp only [Za,Zb,Zc]
    refine till_done (by kernel_rfl) ?_
    go_wp2_with fail
    go_meet
    case rel=>exact⟨_,rfl,DK8⟩
   ·go_wp2_with fail
    have DK6:=Zh (p:=Desk w (v1.alloc (.cells #[Z O 0,Z O 0] 32)) (fun _=>False) C B bef aft l c made N kv tv m [(gD,55,[Z O kind,Z O day,Zs code,Zs other,Z O al,Z O ah,Z O bl,Z O bh]),(gS,49,[Zs code,Z O dl,Z O dh,Z O wl,Z O wh,Z O pil,Z O boi,Zl fa fn fc]),(v1.heap.size,32,[Z O 0,Z O 0])]) (DK5.out.alloc 32 [Z O 0,Z O 0] rfl)
    generalize World.alloc _ _=v2 at DK6 ⊢
    generalize v1.heap.size=gX at DK6 ⊢
    have HT:=MK4 v2 ⟨(DK6.out.loc 0 _ _ _ rfl).1,(DK6.out.loc 1 _ _ _ rfl).1⟩
    refine⟨fun _=>HT.out,?_⟩
    try simp only [Za,Zb,Zc]
    refine till_only (j:=7) (by kernel_rfl) rfl ?_
    go_wp2_with (go_at_call 105;refine(common_fit HFD.out HF1.out Em1.out _).mono ?_;rintro e v3 ⟨rfl,hb⟩;have DK7:=Zh (DK6.out.below hb);clear hb)
    have HT:=MK4 v3 ⟨(DK7.out.loc 0 _ _ _ rfl).1,(DK7.out.loc 1 _ _ _ rfl).1⟩
    refine⟨fun _=>HT.out,?_⟩
    try simp only [Za,Zb,Zc]
    refine till_only (j:=9) (by kernel_rfl) rfl ?_
    have HE:=Zh (p:=v3.there gX 0 2) ((DK7.out.loc 2 _ _ _ rfl).1.there (o:=0) (n:=2) (Zn rfl))
    refine Zw rfl 32 (.tmp 5) (.tmp 18) rfl gX 0 #[Z O m1.lo,Z O m1.hi] rfl rfl HE.out size_bounds (by simp [Value.oneCell']) ?_
    change wpList _ _ _ _ _ (v3.setCells gX 0 [Z O m1.lo,Z O m1.hi])
    clear HE
    have DK8:=Zh (p:=Desk w (v3.setCells gX 0 [Z O m1.lo,Z O m1.hi]) (fun _=>False) C B bef aft l c made N kv tv m [(gD,55,[Z O kind,Z O day,Zs code,Zs other,Z O al,Z O ah,Z O bl,Z O bh]),(gS,49,[Zs code,Z O dl,Z O dh,Z O wl,Z O wh,Z O pil,Z O boi,Zl fa fn fc]),(gX,32,[Z O m1.lo,Z O m1.hi])]) (DK7.out.put 2 0 _ rfl)
    clear DK7
    generalize World.setCells _ _ _ _=v4 at DK8 ⊢
    change Till _ _ _ _∧wpAnyT _ _ _ _ _ _ _ _ _ _
    refine⟨fun h=>by simp at h,?_⟩
    try simp only [Za,Zb,Zc]
    refine till_done (by kernel_rfl) ?_
    go_wp2_with fail
    go_meet
    case rel=>exact⟨_,rfl,DK8⟩
  ·go_wp2_with fail
   have DK5:=Zh (p:=Desk w (v0.alloc (.cells #[Z O 0,Z O 0] 32)) (fun _=>False) C B bef aft l c made N kv tv m [(gD,55,[Z O kind,Z O day,Zs code,Zs other,Z O al,Z O ah,Z O bl,Z O bh]),(gS,49,[Zs code,Z O dl,Z O dh,Z O wl,Z O wh,Z O pil,Z O boi,Zl fa fn fc]),(v0.heap.size,32,[Z O 0,Z O 0])]) (DK4.out.alloc 32 [Z O 0,Z O 0] rfl)
   generalize World.alloc _ _=v1 at DK5 ⊢
   generalize v0.heap.size=gX at DK5 ⊢
   have HT:=MK4 v1 ⟨(DK5.out.loc 0 _ _ _ rfl).1,(DK5.out.loc 1 _ _ _ rfl).1⟩
   refine⟨fun _=>HT.out,?_⟩
   try simp only [Za,Zb,Zc]
   refine till_only (j:=6) (by kernel_rfl) rfl ?_
   go_wp2_with (go_at_call 100;refine(difference_up HUA.out (by decide) HUW.out HV8.out Ed1.out _).mono ?_;rintro e v2 ⟨rfl,hb⟩;have DK6:=Zh (DK5.out.below hb);clear hb)
   have HT:=MK4 v2 ⟨(DK6.out.loc 0 _ _ _ rfl).1,(DK6.out.loc 1 _ _ _ rfl).1⟩
   refine⟨fun _=>HT.out,?_⟩
   try simp only [Za,Zb,Zc]
   refine till_only (j:=7) (by kernel_rfl) rfl ?_
   go_wp2_with (go_at_call 105;refine(common_fit HFD.out HF1.out Em1.out _).mono ?_;rintro e v3 ⟨rfl,hb⟩;have DK7:=Zh (DK6.out.below hb);clear hb)
   have HT:=MK4 v3 ⟨(DK7.out.loc 0 _ _ _ rfl).1,(DK7.out.loc 1 _ _ _ rfl).1⟩
   refine⟨fun _=>HT.out,?_⟩
   try simp only [Za,Zb,Zc]
   refine till_only (j:=9) (by kernel_rfl) rfl ?_
   have HE:=Zh (p:=v3.there gX 0 2) ((DK7.out.loc 2 _ _ _ rfl).1.there (o:=0) (n:=2) (Zn rfl))
   refine Zw rfl 32 (.tmp 5) (.tmp 18) rfl gX 0 #[Z O m1.lo,Z O m1.hi] rfl rfl HE.out size_bounds (by simp [Value.oneCell']) ?_
   change wpList _ _ _ _ _ (v3.setCells gX 0 [Z O m1.lo,Z O m1.hi])
   clear HE
   have DK8:=Zh (p:=Desk w (v3.setCells gX 0 [Z O m1.lo,Z O m1.hi]) (fun _=>False) C B bef aft l c made N kv tv m [(gD,55,[Z O kind,Z O day,Zs code,Zs other,Z O al,Z O ah,Z O bl,Z O bh]),(gS,49,[Zs code,Z O dl,Z O dh,Z O wl,Z O wh,Z O pil,Z O boi,Zl fa fn fc]),(gX,32,[Z O m1.lo,Z O m1.hi])]) (DK7.out.put 2 0 _ rfl)
   clear DK7
   generalize World.setCells _ _ _ _=v4 at DK8 ⊢
   change Till _ _ _ _∧wpAnyT _ _ _ _ _ _ _ _ _ _
   refine⟨fun h=>by simp at h,?_⟩
   try simp only [Za,Zb,Zc]
   refine till_done (by kernel_rfl) ?_
   go_wp2_with fail
   go_meet
   case rel=>exact⟨_,rfl,DK8⟩
 case rest =>
  obtain⟨gX,rfl,DK4⟩:=hcut
  obtain⟨v8,hv8⟩:∃ v,v=wc:=⟨_,rfl⟩
  rw [← hv8]at DK4 ⊢
  clear hv8 DK3
  go_upto_region 3 with fail
  go_cut [6]from 19 to 26 (fun u wx => ∃ gY:Nat,u=.pointer (some ⟨gY,0,none⟩)∧Hid (Desk w wx (fun _=>False) C B bef aft l c made N kv tv m [(gD,55,[Z O kind,Z O day,Zs code,Zs other,Z O al,Z O ah,Z O bl,Z O bh]),(gS,49,[Zs code,Z O dl,Z O dh,Z O wl,Z O wh,Z O pil,Z O boi,Zl fa fn fc]),(gX,32,[Z O m1.lo,Z O m1.hi]),(gY,32,[Z O m2.lo,Z O m2.hi])]))
  case first =>
   refine region_till [9] (fun w'=>Blk w' gD 55 #[Z O kind,Z O day,Zs code,Zs other,Z O al,Z O ah,Z O bl,Z O bh]∧Blk w' gS 49 #[Zs code,Z O dl,Z O dh,Z O wl,Z O wh,Z O pil,Z O boi,Zl fa fn fc]) 10 [false,false,false,false,false,false,false,false,false,false] (by kernel_rfl) rfl rfl ?_
   have MK5:=fun(W:World) (h:(fun w'=>Blk w' gD 55 #[Z O kind,Z O day,Zs code,Zs other,Z O al,Z O ah,Z O bl,Z O bh]∧Blk w' gS 49 #[Zs code,Z O dl,Z O dh,Z O wl,Z O wh,Z O pil,Z O boi,Zl fa fn fc]) W)=>Zh h
   have DK5:=Zh (DK4.out.drew)
   clear DK4
   generalize v8.drew=v9 at DK5 ⊢
   have HT:=MK5 v9 ⟨(DK5.out.loc 0 _ _ _ rfl).1,(DK5.out.loc 1 _ _ _ rfl).1⟩
   refine till_pure (i:=0) (v:=.pointer (some ⟨gS,3,none⟩)) rfl rfl (by kernel_rfl) (fun _ _ _ h=>h) (yields_of rfl (fun w' _=>by simp [go_sem])) (fun _=>HT.out) ?_
   simp only [Za,Zb,Zc]
   refine till_load (i:=1) (v:=.agg #[Z O wl,Z O wh]) rfl rfl (by kernel_rfl) (fun _ _ _ h=>h) (yields_mid rfl 32 (.tmp 19) rfl (gS) 3 rfl [Z O wl,Z O wh] _ (fun w' hw'=>Blk.range hw'.2 3 _ rfl) Try.underlying32 rfl (by kernel_rfl)) (fun _=>HT.out) ?_
   simp only [Za,Zb,Zc]
   refine till_pure (i:=2) (v:=.pointer (some ⟨gD,4,none⟩)) rfl rfl (by kernel_rfl) (fun _ _ _ h=>h) (yields_of rfl (fun w' _=>by simp [go_sem])) (fun _=>HT.out) ?_
   simp only [Za,Zb,Zc]
   refine till_load (i:=3) (v:=.agg #[Z O al,Z O ah]) rfl rfl (by kernel_rfl) (fun _ _ _ h=>h) (yields_mid rfl 32 (.tmp 21) rfl (gD) 4 rfl [Z O al,Z O ah] _ (fun w' hw'=>Blk.range hw'.1 4 _ rfl) Try.underlying32 rfl (by kernel_rfl)) (fun _=>HT.out) ?_
   simp only [Za,Zb,Zc]
   refine till_pure (i:=4) (v:=.pointer (some ⟨gS,1,none⟩)) rfl rfl (by kernel_rfl) (fun _ _ _ h=>h) (yields_of rfl (fun w' _=>by simp [go_sem])) (fun _=>HT.out) ?_
   simp only [Za,Zb,Zc]
   refine till_load (i:=5) (v:=.agg #[Z O dl,Z O dh]) rfl rfl (by kernel_rfl) (fun _ _ _ h=>h) (yields_mid rfl 32 (.tmp 23) rfl (gS) 1 rfl [Z O dl,Z O dh] _ (fun w' hw'=>Blk.range hw'.2 1 _ rfl) Try.underlying32 rfl (by kernel_rfl)) (fun _=>HT.out) ?_
   simp only [Za,Zb,Zc]
   refine till_two (i:=6) (j:=8) (by kernel_rfl) rfl rfl ?_ ?_
   ·go_wp2_with (go_at_call 100;refine(difference_up HUA.out (by decide) HUD.out HV8.out Ed2.out _).mono ?_;rintro e v10 ⟨rfl,hb⟩;have DK6:=Zh (DK5.out.below hb);clear hb)
    have HT:=MK5 v10 ⟨(DK6.out.loc 0 _ _ _ rfl).1,(DK6.out.loc 1 _ _ _ rfl).1⟩
    refine⟨fun _=>HT.out,?_⟩
    try simp only [Za,Zb,Zc]
    refine till_two (i:=7) (j:=8) (by kernel_rfl) rfl rfl ?_ ?_
    ·go_wp2_with (go_at_call 105;refine(common_fit HFW.out HF2.out Em2.out _).mono ?_;rintro e v11 ⟨rfl,hb⟩;have DK7:=Zh (DK6.out.below hb);clear hb)
     have HT:=MK5 v11 ⟨(DK7.out.loc 0 _ _ _ rfl).1,(DK7.out.loc 1 _ _ _ rfl).1⟩
     refine⟨fun _=>HT.out,?_⟩
     try simp only [Za,Zb,Zc]
     refine till_only (j:=8) (by kernel_rfl) rfl ?_
     go_wp2_with fail
     have DK8:=Zh (p:=Desk w (v11.alloc (.cells #[Z O 0,Z O 0] 32)) (fun _=>False) C B bef aft l c made N kv tv m [(gD,55,[Z O kind,Z O day,Zs code,Zs other,Z O al,Z O ah,Z O bl,Z O bh]),(gS,49,[Zs code,Z O dl,Z O dh,Z O wl,Z O wh,Z O pil,Z O boi,Zl fa fn fc]),(gX,32,[Z O m1.lo,Z O m1.hi]),(v11.heap.size,32,[Z O 0,Z O 0])]) (DK7.out.alloc 32 [Z O 0,Z O 0] rfl)
     generalize World.alloc _ _=v12 at DK8 ⊢
     generalize v11.heap.size=gY at DK8 ⊢
     have HT:=MK5 v12 ⟨(DK8.out.loc 0 _ _ _ rfl).1,(DK8.out.loc 1 _ _ _ rfl).1⟩
     refine⟨fun _=>HT.out,?_⟩
     try simp only [Za,Zb,Zc]
     refine till_only (j:=9) (by kernel_rfl) rfl ?_
     have HE:=Zh (p:=v12.there gY 0 2) ((DK8.out.loc 3 _ _ _ rfl).1.there (o:=0) (n:=2) (Zn rfl))
     refine Zw rfl 32 (.tmp 6) (.tmp 26) rfl gY 0 #[Z O m2.lo,Z O m2.hi] rfl rfl HE.out size_bounds (by simp [Value.oneCell']) ?_
     change wpList _ _ _ _ _ (v12.setCells gY 0 [Z O m2.lo,Z O m2.hi])
     clear HE
     have DK9:=Zh (p:=Desk w (v12.setCells gY 0 [Z O m2.lo,Z O m2.hi]) (fun _=>False) C B bef aft l c made N kv tv m [(gD,55,[Z O kind,Z O day,Zs code,Zs other,Z O al,Z O ah,Z O bl,Z O bh]),(gS,49,[Zs code,Z O dl,Z O dh,Z O wl,Z O wh,Z O pil,Z O boi,Zl fa fn fc]),(gX,32,[Z O m1.lo,Z O m1.hi]),(gY,32,[Z O m2.lo,Z O m2.hi])]) (DK8.out.put 3 0 _ rfl)
     clear DK8
     generalize World.setCells _ _ _ _=v13 at DK9 ⊢
     change Till _ _ _ _∧wpAnyT _ _ _ _ _ _ _ _ _ _
     refine⟨fun h=>by simp at h,?_⟩
     try simp only [Za,Zb,Zc]
     refine till_done (by kernel_rfl) ?_
     go_wp2_with fail
     go_meet
     case rel=>exact⟨_,rfl,DK9⟩
    ·go_wp2_with fail
     have DK7:=Zh (p:=Desk w (v10.alloc (.cells #[Z O 0,Z O 0] 32)) (fun _=>False) C B bef aft l c made N kv tv m [(gD,55,[Z O kind,Z O day,Zs code,Zs other,Z O al,Z O ah,Z O bl,Z O bh]),(gS,49,[Zs code,Z O dl,Z O dh,Z O wl,Z O wh,Z O pil,Z O boi,Zl fa fn fc]),(gX,32,[Z O m1.lo,Z O m1.hi]),(v10.heap.size,32,[Z O 0,Z O 0])]) (DK6.out.alloc 32 [Z O 0,Z O 0] rfl)
     generalize World.alloc _ _=v11 at DK7 ⊢
     generalize v10.heap.size=gY at DK7 ⊢
     have HT:=MK5 v11 ⟨(DK7.out.loc 0 _ _ _ rfl).1,(DK7.out.loc 1 _ _ _ rfl).1⟩
     refine⟨fun _=>HT.out,?_⟩
     try simp only [Za,Zb,Zc]
     refine till_only (j:=7) (by kernel_rfl) rfl ?_
     go_wp2_with (go_at_call 105;refine(common_fit HFW.out HF2.out Em2.out _).mono ?_;rintro e v12 ⟨rfl,hb⟩;have DK8:=Zh (DK7.out.below hb);clear hb)
     have HT:=MK5 v12 ⟨(DK8.out.loc 0 _ _ _ rfl).1,(DK8.out.loc 1 _ _ _ rfl).1⟩
     refine⟨fun _=>HT.out,?_⟩
     try simp only [Za,Zb,Zc]
     refine till_only (j:=9) (by kernel_rfl) rfl ?_
     have HE:=Zh (p:=v12.there gY 0 2) ((DK8.out.loc 3 _ _ _ rfl).1.there (o:=0) (n:=2) (Zn rfl))
     refine Zw rfl 32 (.tmp 6) (.tmp 26) rfl gY 0 #[Z O m2.lo,Z O m2.hi] rfl rfl HE.out size_bounds (by simp [Value.oneCell']) ?_
     change wpList _ _ _ _ _ (v12.setCells gY 0 [Z O m2.lo,Z O m2.hi])
     clear HE
     have DK9:=Zh (p:=Desk w (v12.setCells gY 0 [Z O m2.lo,Z O m2.hi]) (fun _=>False) C B bef aft l c made N kv tv m [(gD,55,[Z O kind,Z O day,Zs code,Zs other,Z O al,Z O ah,Z O bl,Z O bh]),(gS,49,[Zs code,Z O dl,Z O dh,Z O wl,Z O wh,Z O pil,Z O boi,Zl fa fn fc]),(gX,32,[Z O m1.lo,Z O m1.hi]),(gY,32,[Z O m2.lo,Z O m2.hi])]) (DK8.out.put 3 0 _ rfl)
     clear DK8
     generalize World.setCells _ _ _ _=v13 at DK9 ⊢
     change Till _ _ _ _∧wpAnyT _ _ _ _ _ _ _ _ _ _
     refine⟨fun h=>by simp at h,?_⟩
     try simp only [Za,Zb,Zc]
     refine till_done (by kernel_rfl) ?_
     go_wp2_with fail
     go_meet
     case rel=>exact⟨_,rfl,DK9⟩
   ·go_wp2_with fail
    have DK6:=Zh (p:=Desk w (v9.alloc (.cells #[Z O 0,Z O 0] 32)) (fun _=>False) C B bef aft l c made N kv tv m [(gD,55,[Z O kind,Z O day,Zs code,Zs other,Z O al,Z O ah,Z O bl,Z O bh]),(gS,49,[Zs code,Z O dl,Z O dh,Z O wl,Z O wh,Z O pil,Z O boi,Zl fa fn fc]),(gX,32,[Z O m1.lo,Z O m1.hi]),(v9.heap.size,32,[Z O 0,Z O 0])]) (DK5.out.alloc 32 [Z O 0,Z O 0] rfl)
    generalize World.alloc _ _=v10 at DK6 ⊢
    generalize v9.heap.size=gY at DK6 ⊢
    have HT:=MK5 v10 ⟨(DK6.out.loc 0 _ _ _ rfl).1,(DK6.out.loc 1 _ _ _ rfl).1⟩
    refine⟨fun _=>HT.out,?_⟩
    try simp only [Za,Zb,Zc]
    refine till_only (j:=6) (by kernel_rfl) rfl ?_
    go_wp2_with (go_at_call 100;refine(difference_up HUA.out (by decide) HUD.out HV8.out Ed2.out _).mono ?_;rintro e v11 ⟨rfl,hb⟩;have DK7:=Zh (DK6.out.below hb);clear hb)
    have HT:=MK5 v11 ⟨(DK7.out.loc 0 _ _ _ rfl).1,(DK7.out.loc 1 _ _ _ rfl).1⟩
    refine⟨fun _=>HT.out,?_⟩
    try simp only [Za,Zb,Zc]
    refine till_only (j:=7) (by kernel_rfl) rfl ?_
    go_wp2_with (go_at_call 105;refine(common_fit HFW.out HF2.out Em2.out _).mono ?_;rintro e v12 ⟨rfl,hb⟩;have DK8:=Zh (DK7.out.below hb);clear hb)
    have HT:=MK5 v12 ⟨(DK8.out.loc 0 _ _ _ rfl).1,(DK8.out.loc 1 _ _ _ rfl).1⟩
    refine⟨fun _=>HT.out,?_⟩
    try simp only [Za,Zb,Zc]
    refine till_only (j:=9) (by kernel_rfl) rfl ?_
    have HE:=Zh (p:=v12.there gY 0 2) ((DK8.out.loc 3 _ _ _ rfl).1.there (o:=0) (n:=2) (Zn rfl))
    refine Zw rfl 32 (.tmp 6) (.tmp 26) rfl gY 0 #[Z O m2.lo,Z O m2.hi] rfl rfl HE.out size_bounds (by simp [Value.oneCell']) ?_
    change wpList _ _ _ _ _ (v12.setCells gY 0 [Z O m2.lo,Z O m2.hi])
    clear HE
    have DK9:=Zh (p:=Desk w (v12.setCells gY 0 [Z O m2.lo,Z O m2.hi]) (fun _=>False) C B bef aft l c made N kv tv m [(gD,55,[Z O kind,Z O day,Zs code,Zs other,Z O al,Z O ah,Z O bl,Z O bh]),(gS,49,[Zs code,Z O dl,Z O dh,Z O wl,Z O wh,Z O pil,Z O boi,Zl fa fn fc]),(gX,32,[Z O m1.lo,Z O m1.hi]),(gY,32,[Z O m2.lo,Z O m2.hi])]) (DK8.out.put 3 0 _ rfl)
    clear DK8
    generalize World.setCells _ _ _ _=v13 at DK9 ⊢
    change Till _ _ _ _∧wpAnyT _ _ _ _ _ _ _ _ _ _
    refine⟨fun h=>by simp at h,?_⟩
    try simp only [Za,Zb,Zc]
    refine till_done (by kernel_rfl) ?_
    go_wp2_with fail
    go_meet
    case rel=>exact⟨_,rfl,DK9⟩
  case rest =>
   obtain⟨gY,rfl,DK5⟩:=hcut
   have x0:=DK5.out.at 2 0 (v:=Z O m1.lo) rfl rfl
   have x1:=DK5.out.at 2 1 (v:=Z O m1.hi) rfl rfl
   have y0:=DK5.out.at 3 0 (v:=Z O m2.lo) rfl rfl
   have y1:=DK5.out.at 3 1 (v:=Z O m2.hi) rfl rfl
   go_wp2_with (go_at_call 98;refine(need_false _ _).mono ?_;rintro e w2 ⟨rfl,rfl⟩)
   exact⟨rfl,rfl,DK5.out.quiet⟩
theorem weigh_scale2 {w:World}{C:Nat→Prop}{B:Nat}{bef aft:Int}{l:List SRow}{c:Yd.Acc}{made:Int}{N:Nat}{kv tv:Value}{m:Nat}(h:Book w C B bef aft l c made N kv tv m)
  (kind day:Int) (code other:Code) (al ah bl bh:Int) (hs:code.size≤maxLen) (hC:∀ k,C k→k<w.heap.size) (dl dh wl wh pil boi:Int) (src:List Int) (fa:Option Addr) (fn fc:Nat) (V:Int) (hV:V≤2000000000000000) {k:Nat} (hk:ixOf l code=some k) (hp:l[k]? = some (⟨code,⟨dl,dh⟩,⟨wl,wh⟩,pil,boi,src⟩,Zl fa fn fc)) (ud:Bd.Up ⟨dl,dh⟩ V) (uw:Bd.Up ⟨wl,wh⟩ V) (ua:Bd.Up ⟨al,ah⟩ 100000000) (h1:(Bd.weighed ⟨dl,dh⟩ ⟨wl,wh⟩ ⟨al,ah⟩).lo≤(Bd.weighed ⟨dl,dh⟩ ⟨wl,wh⟩ ⟨al,ah⟩).hi) (h2:¬ (Bd.weighed ⟨wl,wh⟩ ⟨dl,dh⟩ ⟨al,ah⟩).lo≤(Bd.weighed ⟨wl,wh⟩ ⟨dl,dh⟩ ⟨al,ah⟩).hi) :
  Calls Try.prog 90 #[.pointer (some ⟨B,0,none⟩),.agg #[Z O kind,Z O day,Zs code,Zs other,Z O al,Z O ah,Z O bl,Z O bh]] w fun e w'=>e=.panicked (faulty 5)∧Below w.heap.size w w':=by
 have HUD:=Zh ud;have HUW:=Zh uw;have HUA:=Zh ua
 have HV8:=Zh (p:=V≤8000000000000000) (Int.le_trans hV (by decide))
 have HF1:=Zh (sub_fit ua (by decide) uw HV8.out);have HF2:=Zh (sub_fit ua (by decide) ud HV8.out)
 have HFD:=Zh (fit_of_up ud (show V≤4000000000000000000 from Int.le_trans hV (by decide)));have HFW:=Zh (fit_of_up uw (show V≤4000000000000000000 from Int.le_trans hV (by decide)))
 clear ud uw ua
 obtain⟨d1,hd1⟩:∃ b:Bd,b=Bd.sub ⟨al,ah⟩ ⟨wl,wh⟩:=⟨_,rfl⟩
 have Ed1:=Zh hd1;clear hd1
 obtain⟨m1,hm1⟩:∃ b:Bd,b=Bd.meet ⟨dl,dh⟩ d1:=⟨_,rfl⟩
 have Em1:=Zh hm1;clear hm1
 obtain⟨d2,hd2⟩:∃ b:Bd,b=Bd.sub ⟨al,ah⟩ ⟨dl,dh⟩:=⟨_,rfl⟩
 have Ed2:=Zh hd2;clear hd2
 obtain⟨m2,hm2⟩:∃ b:Bd,b=Bd.meet ⟨wl,wh⟩ d2:=⟨_,rfl⟩
 have Em2:=Zh hm2;clear hm2
 rw [← Ed1.out]at HF1
 rw [← Ed2.out]at HF2
 have b1:decide (m1.lo≤m1.hi)=true:=by rw [Em1.out,Ed1.out];exact decide_eq_true h1
 have b2:decide (m2.lo≤m2.hi)=false:=by rw [Em2.out,Ed2.out];exact decide_eq_false h2
 clear h1 h2
 have DK1:=Zh (boxed_deed h hC [Z O kind,Z O day,Zs code,Zs other,Z O al,Z O ah,Z O bl,Z O bh])
 have hz1:(w.alloc (.cells #[Z O kind,Z O day,Zs code,Zs other,Z O al,Z O ah,Z O bl,Z O bh] 55)).heap.size=w.heap.size+1:=World.size_alloc _ _
 have HS:=Zh hs;have HK:=Zh hk;have HP:=Zh hp;have HC:=Zh hC
 clear h hs hk hp hC
 go_enter Try.func90,Try.ntmps90
 go_upto_region 2 with(first
  | (go_at_call 94;refine(stack_yes DK1.out.book code HS.out HK.out HP.out).mono ?_;rintro e w1 ⟨rfl,hb1⟩;have DK2:=Zh ((DK1.out.below hb1).alloc 49 [Zs ⟨#[]⟩,Z O 0,Z O 0,Z O 0,Z O 0,Z O 0,Z O 0,Zl none 0 0] rfl);clear hb1)
  | ((with_reducible refine at_store 49 (.tmp 4) (.tmp 10) ?_);go_must (refine Zw rfl 49 (.tmp 4) (.tmp 10) rfl w1.heap.size 0 #[Zs code,Z O dl,Z O dh,Z O wl,Z O wh,Z O pil,Z O boi,Zl fa fn fc] rfl rfl ((DK2.out.loc 1 _ _ _ rfl).1.there (o:=0) (n:=8) (Zn rfl)) size_stack (by simp [Value.oneCell']) ?_)))
 have hgS:=(DK2.out.far 1 rfl).1
 have DK3:=Zh (p:=Desk w ((w1.alloc (.cells #[Zs ⟨#[]⟩,Z O 0,Z O 0,Z O 0,Z O 0,Z O 0,Z O 0,Zl none 0 0] 49)).setCells w1.heap.size 0 [Zs code,Z O dl,Z O dh,Z O wl,Z O wh,Z O pil,Z O boi,Zl fa fn fc]) (fun _=>False) C B bef aft l c made N kv tv m [(w.heap.size,55,[Z O kind,Z O day,Zs code,Zs other,Z O al,Z O ah,Z O bl,Z O bh]),(w1.heap.size,49,[Zs code,Z O dl,Z O dh,Z O wl,Z O wh,Z O pil,Z O boi,Zl fa fn fc])]) (DK2.out.put 1 0 _ rfl)
 clear DK2
 generalize((w1.alloc (.cells #[Zs ⟨#[]⟩,Z O 0,Z O 0,Z O 0,Z O 0,Z O 0,Z O 0,Zl none 0 0] 49)).setCells w1.heap.size 0 [Zs code,Z O dl,Z O dh,Z O wl,Z O wh,Z O pil,Z O boi,Zl fa fn fc])=W3 at DK3 ⊢
 obtain⟨gD,hgD⟩:∃ g,g=w.heap.size:=⟨_,rfl⟩
 obtain⟨gS,hgS2⟩:∃ g,g=w1.heap.size:=⟨_,rfl⟩
 rw [← hgD,← hgS2]at DK3 ⊢
 have HZ:=Zh (And.intro hgD hgS2)
 clear hgD hgS2 hgS hz1
 simp only [Act.put]
 go_cut [5]from 11 to 18 (fun u wx => ∃ gX:Nat,u=.pointer (some ⟨gX,0,none⟩)∧Hid (Desk w wx (fun _=>False) C B bef aft l c made N kv tv m [(gD,55,[Z O kind,Z O day,Zs code,Zs other,Z O al,Z O ah,Z O bl,Z O bh]),(gS,49,[Zs code,Z O dl,Z O dh,Z O wl,Z O wh,Z O pil,Z O boi,Zl fa fn fc]),(gX,32,[Z O m1.lo,Z O m1.hi])]))
 case first =>
  refine region_till [9] (fun w'=>Blk w' gD 55 #[Z O kind,Z O day,Zs code,Zs other,Z O al,Z O ah,Z O bl,Z O bh]∧Blk w' gS 49 #[Zs code,Z O dl,Z O dh,Z O wl,Z O wh,Z O pil,Z O boi,Zl fa fn fc]) 10 [false,false,false,false,false,false,false,false,false,false] (by kernel_rfl) rfl rfl ?_
  have MK6:=fun(W:World) (h:(fun w'=>Blk w' gD 55 #[Z O kind,Z O day,Zs code,Zs other,Z O al,Z O ah,Z O bl,Z O bh]∧Blk w' gS 49 #[Zs code,Z O dl,Z O dh,Z O wl,Z O wh,Z O pil,Z O boi,Zl fa fn fc]) W)=>Zh h
  have DK4:=Zh (DK3.out.drew)
  clear DK3
  generalize W3.drew=v0 at DK4 ⊢
  have HT:=MK6 v0 ⟨(DK4.out.loc 0 _ _ _ rfl).1,(DK4.out.loc 1 _ _ _ rfl).1⟩
  refine till_pure (i:=0) (v:=.pointer (some ⟨gS,1,none⟩)) rfl rfl (by kernel_rfl) (fun _ _ _ h=>h) (yields_of rfl (fun w' _=>by simp [go_sem])) (fun _=>HT.out) ?_
  simp only [Za,Zb,Zc]
  refine till_load (i:=1) (v:=.agg #[Z O dl,Z O dh]) rfl rfl (by kernel_rfl) (fun _ _ _ h=>h) (yields_mid rfl 32 (.tmp 11) rfl (gS) 1 rfl [Z O dl,Z O dh] _ (fun w' hw'=>Blk.range hw'.2 1 _ rfl) Try.underlying32 rfl (by kernel_rfl)) (fun _=>HT.out) ?_
  simp only [Za,Zb,Zc]
  refine till_pure (i:=2) (v:=.pointer (some ⟨gD,4,none⟩)) rfl rfl (by kernel_rfl) (fun _ _ _ h=>h) (yields_of rfl (fun w' _=>by simp [go_sem])) (fun _=>HT.out) ?_
  simp only [Za,Zb,Zc]
  refine till_load (i:=3) (v:=.agg #[Z O al,Z O ah]) rfl rfl (by kernel_rfl) (fun _ _ _ h=>h) (yields_mid rfl 32 (.tmp 13) rfl (gD) 4 rfl [Z O al,Z O ah] _ (fun w' hw'=>Blk.range hw'.1 4 _ rfl) Try.underlying32 rfl (by kernel_rfl)) (fun _=>HT.out) ?_
  simp only [Za,Zb,Zc]
  refine till_pure (i:=4) (v:=.pointer (some ⟨gS,3,none⟩)) rfl rfl (by kernel_rfl) (fun _ _ _ h=>h) (yields_of rfl (fun w' _=>by simp [go_sem])) (fun _=>HT.out) ?_
  simp only [Za,Zb,Zc]
  refine till_load (i:=5) (v:=.agg #[Z O wl,Z O wh]) rfl rfl (by kernel_rfl) (fun _ _ _ h=>h) (yields_mid rfl 32 (.tmp 15) rfl (gS) 3 rfl [Z O wl,Z O wh] _ (fun w' hw'=>Blk.range hw'.2 3 _ rfl) Try.underlying32 rfl (by kernel_rfl)) (fun _=>HT.out) ?_
  simp only [Za,Zb,Zc]
  refine till_two (i:=6) (j:=8) (by kernel_rfl) rfl rfl ?_ ?_
  ·go_wp2_with (go_at_call 100;refine(difference_up HUA.out (by decide) HUW.out HV8.out Ed1.out _).mono ?_;rintro e v1 ⟨rfl,hb⟩;have DK5:=Zh (DK4.out.below hb);clear hb)
   have HT:=MK6 v1 ⟨(DK5.out.loc 0 _ _ _ rfl).1,(DK5.out.loc 1 _ _ _ rfl).1⟩
   refine⟨fun _=>HT.out,?_⟩
   try simp only [Za,Zb,Zc]
   refine till_two (i:=7) (j:=8) (by kernel_rfl) rfl rfl ?_ ?_
   ·go_wp2_with (go_at_call 105;refine(common_fit HFD.out HF1.out Em1.out _).mono ?_;rintro e v2 ⟨rfl,hb⟩;have DK6:=Zh (DK5.out.below hb);clear hb)
    have HT:=MK6 v2 ⟨(DK6.out.loc 0 _ _ _ rfl).1,(DK6.out.loc 1 _ _ _ rfl).1⟩
    refine⟨fun _=>HT.out,?_⟩
    try simp only [Za,Zb,Zc]
    refine till_only (j:=8) (by kernel_rfl) rfl ?_
    go_wp2_with fail
    have DK7:=Zh (p:=Desk w (v2.alloc (.cells #[Z O 0,Z O 0] 32)) (fun _=>False) C B bef aft l c made N kv tv m [(gD,55,[Z O kind,Z O day,Zs code,Zs other,Z O al,Z O ah,Z O bl,Z O bh]),(gS,49,[Zs code,Z O dl,Z O dh,Z O wl,Z O wh,Z O pil,Z O boi,Zl fa fn fc]),(v2.heap.size,32,[Z O 0,Z O 0])]) (DK6.out.alloc 32 [Z O 0,Z O 0] rfl)
    generalize World.alloc _ _=v3 at DK7 ⊢
    generalize v2.heap.size=gX at DK7 ⊢
    have HT:=MK6 v3 ⟨(DK7.out.loc 0 _ _ _ rfl).1,(DK7.out.loc 1 _ _ _ rfl).1⟩
    refine⟨fun _=>HT.out,?_⟩
    try simp only [Za,Zb,Zc]
    refine till_only (j:=9) (by kernel_rfl) rfl ?_
    have HE:=Zh (p:=v3.there gX 0 2) ((DK7.out.loc 2 _ _ _ rfl).1.there (o:=0) (n:=2) (Zn rfl))
    refine Zw rfl 32 (.tmp 5) (.tmp 18) rfl gX 0 #[Z O m1.lo,Z O m1.hi] rfl rfl HE.out size_bounds (by simp [Value.oneCell']) ?_
    change wpList _ _ _ _ _ (v3.setCells gX 0 [Z O m1.lo,Z O m1.hi])
    clear HE
    have DK8:=Zh (p:=Desk w (v3.setCells gX 0 [Z O m1.lo,Z O m1.hi]) (fun _=>False) C B bef aft l c made N kv tv m [(gD,55,[Z O kind,Z O day,Zs code,Zs other,Z O al,Z O ah,Z O bl,Z O bh]),(gS,49,[Zs code,Z O dl,Z O dh,Z O wl,Z O wh,Z O pil,Z O boi,Zl fa fn fc]),(gX,32,[Z O m1.lo,Z O m1.hi])]) (DK7.out.put 2 0 _ rfl)
    clear DK7
    generalize World.setCells _ _ _ _=v4 at DK8 ⊢
    change Till _ _ _ _∧wpAnyT _ _ _ _ _ _ _ _ _ _
    refine⟨fun h=>by simp at h,?_⟩
    try simp only [Za,Zb,Zc]
    refine till_done (by kernel_rfl) ?_
    go_wp2_with fail
    go_meet
    case rel=>exact⟨_,rfl,DK8⟩
   ·go_wp2_with fail
    have DK6:=Zh (p:=Desk w (v1.alloc (.cells #[Z O 0,Z O 0] 32)) (fun _=>False) C B bef aft l c made N kv tv m [(gD,55,[Z O kind,Z O day,Zs code,Zs other,Z O al,Z O ah,Z O bl,Z O bh]),(gS,49,[Zs code,Z O dl,Z O dh,Z O wl,Z O wh,Z O pil,Z O boi,Zl fa fn fc]),(v1.heap.size,32,[Z O 0,Z O 0])]) (DK5.out.alloc 32 [Z O 0,Z O 0] rfl)
    generalize World.alloc _ _=v2 at DK6 ⊢
    generalize v1.heap.size=gX at DK6 ⊢
    have HT:=MK6 v2 ⟨(DK6.out.loc 0 _ _ _ rfl).1,(DK6.out.loc 1 _ _ _ rfl).1⟩
    refine⟨fun _=>HT.out,?_⟩
    try simp only [Za,Zb,Zc]
    refine till_only (j:=7) (by kernel_rfl) rfl ?_
    go_wp2_with (go_at_call 105;refine(common_fit HFD.out HF1.out Em1.out _).mono ?_;rintro e v3 ⟨rfl,hb⟩;have DK7:=Zh (DK6.out.below hb);clear hb)
    have HT:=MK6 v3 ⟨(DK7.out.loc 0 _ _ _ rfl).1,(DK7.out.loc 1 _ _ _ rfl).1⟩
    refine⟨fun _=>HT.out,?_⟩
    try simp only [Za,Zb,Zc]
    refine till_only (j:=9) (by kernel_rfl) rfl ?_
    have HE:=Zh (p:=v3.there gX 0 2) ((DK7.out.loc 2 _ _ _ rfl).1.there (o:=0) (n:=2) (Zn rfl))
    refine Zw rfl 32 (.tmp 5) (.tmp 18) rfl gX 0 #[Z O m1.lo,Z O m1.hi] rfl rfl HE.out size_bounds (by simp [Value.oneCell']) ?_
    change wpList _ _ _ _ _ (v3.setCells gX 0 [Z O m1.lo,Z O m1.hi])
    clear HE
    have DK8:=Zh (p:=Desk w (v3.setCells gX 0 [Z O m1.lo,Z O m1.hi]) (fun _=>False) C B bef aft l c made N kv tv m [(gD,55,[Z O kind,Z O day,Zs code,Zs other,Z O al,Z O ah,Z O bl,Z O bh]),(gS,49,[Zs code,Z O dl,Z O dh,Z O wl,Z O wh,Z O pil,Z O boi,Zl fa fn fc]),(gX,32,[Z O m1.lo,Z O m1.hi])]) (DK7.out.put 2 0 _ rfl)
    clear DK7
    generalize World.setCells _ _ _ _=v4 at DK8 ⊢
    change Till _ _ _ _∧wpAnyT _ _ _ _ _ _ _ _ _ _
    refine⟨fun h=>by simp at h,?_⟩
    try simp only [Za,Zb,Zc]
    refine till_done (by kernel_rfl) ?_
    go_wp2_with fail
    go_meet
    case rel=>exact⟨_,rfl,DK8⟩
  ·go_wp2_with fail
   have DK5:=Zh (p:=Desk w (v0.alloc (.cells #[Z O 0,Z O 0] 32)) (fun _=>False) C B bef aft l c made N kv tv m [(gD,55,[Z O kind,Z O day,Zs code,Zs other,Z O al,Z O ah,Z O bl,Z O bh]),(gS,49,[Zs code,Z O dl,Z O dh,Z O wl,Z O wh,Z O pil,Z O boi,Zl fa fn fc]),(v0.heap.size,32,[Z O 0,Z O 0])]) (DK4.out.alloc 32 [Z O 0,Z O 0] rfl)
   generalize World.alloc _ _=v1 at DK5 ⊢
   generalize v0.heap.size=gX at DK5 ⊢
   have HT:=MK6 v1 ⟨(DK5.out.loc 0 _ _ _ rfl).1,(DK5.out.loc 1 _ _ _ rfl).1⟩
   refine⟨fun _=>HT.out,?_⟩
   try simp only [Za,Zb,Zc]
   refine till_only (j:=6) (by kernel_rfl) rfl ?_
   go_wp2_with (go_at_call 100;refine(difference_up HUA.out (by decide) HUW.out HV8.out Ed1.out _).mono ?_;rintro e v2 ⟨rfl,hb⟩;have DK6:=Zh (DK5.out.below hb);clear hb)
   have HT:=MK6 v2 ⟨(DK6.out.loc 0 _ _ _ rfl).1,(DK6.out.loc 1 _ _ _ rfl).1⟩
   refine⟨fun _=>HT.out,?_⟩
   try simp only [Za,Zb,Zc]
   refine till_only (j:=7) (by kernel_rfl) rfl ?_
   go_wp2_with (go_at_call 105;refine(common_fit HFD.out HF1.out Em1.out _).mono ?_;rintro e v3 ⟨rfl,hb⟩;have DK7:=Zh (DK6.out.below hb);clear hb)
   have HT:=MK6 v3 ⟨(DK7.out.loc 0 _ _ _ rfl).1,(DK7.out.loc 1 _ _ _ rfl).1⟩
   refine⟨fun _=>HT.out,?_⟩
   try simp only [Za,Zb,Zc]
   refine till_only (j:=9) (by kernel_rfl) rfl ?_
   have HE:=Zh (p:=v3.there gX 0 2) ((DK7.out.loc 2 _ _ _ rfl).1.there (o:=0) (n:=2) (Zn rfl))
   refine Zw rfl 32 (.tmp 5) (.tmp 18) rfl gX 0 #[Z O m1.lo,Z O m1.hi] rfl rfl HE.out size_bounds (by simp [Value.oneCell']) ?_
   change wpList _ _ _ _ _ (v3.setCells gX 0 [Z O m1.lo,Z O m1.hi])
   clear HE
   have DK8:=Zh (p:=Desk w (v3.setCells gX 0 [Z O m1.lo,Z O m1.hi]) (fun _=>False) C B bef aft l c made N kv tv m [(gD,55,[Z O kind,Z O day,Zs code,Zs other,Z O al,Z O ah,Z O bl,Z O bh]),(gS,49,[Zs code,Z O dl,Z O dh,Z O wl,Z O wh,Z O pil,Z O boi,Zl fa fn fc]),(gX,32,[Z O m1.lo,Z O m1.hi])]) (DK7.out.put 2 0 _ rfl)
   clear DK7
   generalize World.setCells _ _ _ _=v4 at DK8 ⊢
   change Till _ _ _ _∧wpAnyT _ _ _ _ _ _ _ _ _ _
   refine⟨fun h=>by simp at h,?_⟩
   try simp only [Za,Zb,Zc]
   refine till_done (by kernel_rfl) ?_
   go_wp2_with fail
   go_meet
   case rel=>exact⟨_,rfl,DK8⟩
 case rest =>
  obtain⟨gX,rfl,DK4⟩:=hcut
  obtain⟨v8,hv8⟩:∃ v,v=wc:=⟨_,rfl⟩
  rw [← hv8]at DK4 ⊢
  clear hv8 DK3
  go_upto_region 3 with fail
  go_cut [6]from 19 to 26 (fun u wx => ∃ gY:Nat,u=.pointer (some ⟨gY,0,none⟩)∧Hid (Desk w wx (fun _=>False) C B bef aft l c made N kv tv m [(gD,55,[Z O kind,Z O day,Zs code,Zs other,Z O al,Z O ah,Z O bl,Z O bh]),(gS,49,[Zs code,Z O dl,Z O dh,Z O wl,Z O wh,Z O pil,Z O boi,Zl fa fn fc]),(gX,32,[Z O m1.lo,Z O m1.hi]),(gY,32,[Z O m2.lo,Z O m2.hi])]))
  case first =>
   refine region_till [9] (fun w'=>Blk w' gD 55 #[Z O kind,Z O day,Zs code,Zs other,Z O al,Z O ah,Z O bl,Z O bh]∧Blk w' gS 49 #[Zs code,Z O dl,Z O dh,Z O wl,Z O wh,Z O pil,Z O boi,Zl fa fn fc]) 10 [false,false,false,false,false,false,false,false,false,false] (by kernel_rfl) rfl rfl ?_
   have MK7:=fun(W:World) (h:(fun w'=>Blk w' gD 55 #[Z O kind,Z O day,Zs code,Zs other,Z O al,Z O ah,Z O bl,Z O bh]∧Blk w' gS 49 #[Zs code,Z O dl,Z O dh,Z O wl,Z O wh,Z O pil,Z O boi,Zl fa fn fc]) W)=>Zh h
   have DK5:=Zh (DK4.out.drew)
   clear DK4
   generalize v8.drew=v9 at DK5 ⊢
   have HT:=MK7 v9 ⟨(DK5.out.loc 0 _ _ _ rfl).1,(DK5.out.loc 1 _ _ _ rfl).1⟩
   refine till_pure (i:=0) (v:=.pointer (some ⟨gS,3,none⟩)) rfl rfl (by kernel_rfl) (fun _ _ _ h=>h) (yields_of rfl (fun w' _=>by simp [go_sem])) (fun _=>HT.out) ?_
   simp only [Za,Zb,Zc]
   refine till_load (i:=1) (v:=.agg #[Z O wl,Z O wh]) rfl rfl (by kernel_rfl) (fun _ _ _ h=>h) (yields_mid rfl 32 (.tmp 19) rfl (gS) 3 rfl [Z O wl,Z O wh] _ (fun w' hw'=>Blk.range hw'.2 3 _ rfl) Try.underlying32 rfl (by kernel_rfl)) (fun _=>HT.out) ?_
   simp only [Za,Zb,Zc]
   refine till_pure (i:=2) (v:=.pointer (some ⟨gD,4,none⟩)) rfl rfl (by kernel_rfl) (fun _ _ _ h=>h) (yields_of rfl (fun w' _=>by simp [go_sem])) (fun _=>HT.out) ?_
   simp only [Za,Zb,Zc]
   refine till_load (i:=3) (v:=.agg #[Z O al,Z O ah]) rfl rfl (by kernel_rfl) (fun _ _ _ h=>h) (yields_mid rfl 32 (.tmp 21) rfl (gD) 4 rfl [Z O al,Z O ah] _ (fun w' hw'=>Blk.range hw'.1 4 _ rfl) Try.underlying32 rfl (by kernel_rfl)) (fun _=>HT.out) ?_
   simp only [Za,Zb,Zc]
   refine till_pure (i:=4) (v:=.pointer (some ⟨gS,1,none⟩)) rfl rfl (by kernel_rfl) (fun _ _ _ h=>h) (yields_of rfl (fun w' _=>by simp [go_sem])) (fun _=>HT.out) ?_
   simp only [Za,Zb,Zc]
   refine till_load (i:=5) (v:=.agg #[Z O dl,Z O dh]) rfl rfl (by kernel_rfl) (fun _ _ _ h=>h) (yields_mid rfl 32 (.tmp 23) rfl (gS) 1 rfl [Z O dl,Z O dh] _ (fun w' hw'=>Blk.range hw'.2 1 _ rfl) Try.underlying32 rfl (by kernel_rfl)) (fun _=>HT.out) ?_
   simp only [Za,Zb,Zc]
   refine till_two (i:=6) (j:=8) (by kernel_rfl) rfl rfl ?_ ?_
   ·go_wp2_with (go_at_call 100;refine(difference_up HUA.out (by decide) HUD.out HV8.out Ed2.out _).mono ?_;rintro e v10 ⟨rfl,hb⟩;have DK6:=Zh (DK5.out.below hb);clear hb)
    have HT:=MK7 v10 ⟨(DK6.out.loc 0 _ _ _ rfl).1,(DK6.out.loc 1 _ _ _ rfl).1⟩
    refine⟨fun _=>HT.out,?_⟩
    try simp only [Za,Zb,Zc]
    refine till_two (i:=7) (j:=8) (by kernel_rfl) rfl rfl ?_ ?_
    ·go_wp2_with (go_at_call 105;refine(common_fit HFW.out HF2.out Em2.out _).mono ?_;rintro e v11 ⟨rfl,hb⟩;have DK7:=Zh (DK6.out.below hb);clear hb)
     have HT:=MK7 v11 ⟨(DK7.out.loc 0 _ _ _ rfl).1,(DK7.out.loc 1 _ _ _ rfl).1⟩
     refine⟨fun _=>HT.out,?_⟩
     try simp only [Za,Zb,Zc]
     refine till_only (j:=8) (by kernel_rfl) rfl ?_
     go_wp2_with fail
     have DK8:=Zh (p:=Desk w (v11.alloc (.cells #[Z O 0,Z O 0] 32)) (fun _=>False) C B bef aft l c made N kv tv m [(gD,55,[Z O kind,Z O day,Zs code,Zs other,Z O al,Z O ah,Z O bl,Z O bh]),(gS,49,[Zs code,Z O dl,Z O dh,Z O wl,Z O wh,Z O pil,Z O boi,Zl fa fn fc]),(gX,32,[Z O m1.lo,Z O m1.hi]),(v11.heap.size,32,[Z O 0,Z O 0])]) (DK7.out.alloc 32 [Z O 0,Z O 0] rfl)
     generalize World.alloc _ _=v12 at DK8 ⊢
     generalize v11.heap.size=gY at DK8 ⊢
     have HT:=MK7 v12 ⟨(DK8.out.loc 0 _ _ _ rfl).1,(DK8.out.loc 1 _ _ _ rfl).1⟩
     refine⟨fun _=>HT.out,?_⟩
     try simp only [Za,Zb,Zc]
     refine till_only (j:=9) (by kernel_rfl) rfl ?_
     have HE:=Zh (p:=v12.there gY 0 2) ((DK8.out.loc 3 _ _ _ rfl).1.there (o:=0) (n:=2) (Zn rfl))
     refine Zw rfl 32 (.tmp 6) (.tmp 26) rfl gY 0 #[Z O m2.lo,Z O m2.hi] rfl rfl HE.out size_bounds (by simp [Value.oneCell']) ?_
     change wpList _ _ _ _ _ (v12.setCells gY 0 [Z O m2.lo,Z O m2.hi])
     clear HE
     have DK9:=Zh (p:=Desk w (v12.setCells gY 0 [Z O m2.lo,Z O m2.hi]) (fun _=>False) C B bef aft l c made N kv tv m [(gD,55,[Z O kind,Z O day,Zs code,Zs other,Z O al,Z O ah,Z O bl,Z O bh]),(gS,49,[Zs code,Z O dl,Z O dh,Z O wl,Z O wh,Z O pil,Z O boi,Zl fa fn fc]),(gX,32,[Z O m1.lo,Z O m1.hi]),(gY,32,[Z O m2.lo,Z O m2.hi])]) (DK8.out.put 3 0 _ rfl)
     clear DK8
     generalize World.setCells _ _ _ _=v13 at DK9 ⊢
     change Till _ _ _ _∧wpAnyT _ _ _ _ _ _ _ _ _ _
     refine⟨fun h=>by simp at h,?_⟩
     try simp only [Za,Zb,Zc]
     refine till_done (by kernel_rfl) ?_
     go_wp2_with fail
     go_meet
     case rel=>exact⟨_,rfl,DK9⟩
    ·go_wp2_with fail
     have DK7:=Zh (p:=Desk w (v10.alloc (.cells #[Z O 0,Z O 0] 32)) (fun _=>False) C B bef aft l c made N kv tv m [(gD,55,[Z O kind,Z O day,Zs code,Zs other,Z O al,Z O ah,Z O bl,Z O bh]),(gS,49,[Zs code,Z O dl,Z O dh,Z O wl,Z O wh,Z O pil,Z O boi,Zl fa fn fc]),(gX,32,[Z O m1.lo,Z O m1.hi]),(v10.heap.size,32,[Z O 0,Z O 0])]) (DK6.out.alloc 32 [Z O 0,Z O 0] rfl)
     generalize World.alloc _ _=v11 at DK7 ⊢
     generalize v10.heap.size=gY at DK7 ⊢
     have HT:=MK7 v11 ⟨(DK7.out.loc 0 _ _ _ rfl).1,(DK7.out.loc 1 _ _ _ rfl).1⟩
     refine⟨fun _=>HT.out,?_⟩
     try simp only [Za,Zb,Zc]
     refine till_only (j:=7) (by kernel_rfl) rfl ?_
     go_wp2_with (go_at_call 105;refine(common_fit HFW.out HF2.out Em2.out _).mono ?_;rintro e v12 ⟨rfl,hb⟩;have DK8:=Zh (DK7.out.below hb);clear hb)
     have HT:=MK7 v12 ⟨(DK8.out.loc 0 _ _ _ rfl).1,(DK8.out.loc 1 _ _ _ rfl).1⟩
     refine⟨fun _=>HT.out,?_⟩
     try simp only [Za,Zb,Zc]
     refine till_only (j:=9) (by kernel_rfl) rfl ?_
     have HE:=Zh (p:=v12.there gY 0 2) ((DK8.out.loc 3 _ _ _ rfl).1.there (o:=0) (n:=2) (Zn rfl))
     refine Zw rfl 32 (.tmp 6) (.tmp 26) rfl gY 0 #[Z O m2.lo,Z O m2.hi] rfl rfl HE.out size_bounds (by simp [Value.oneCell']) ?_
     change wpList _ _ _ _ _ (v12.setCells gY 0 [Z O m2.lo,Z O m2.hi])
     clear HE
     have DK9:=Zh (p:=Desk w (v12.setCells gY 0 [Z O m2.lo,Z O m2.hi]) (fun _=>False) C B bef aft l c made N kv tv m [(gD,55,[Z O kind,Z O day,Zs code,Zs other,Z O al,Z O ah,Z O bl,Z O bh]),(gS,49,[Zs code,Z O dl,Z O dh,Z O wl,Z O wh,Z O pil,Z O boi,Zl fa fn fc]),(gX,32,[Z O m1.lo,Z O m1.hi]),(gY,32,[Z O m2.lo,Z O m2.hi])]) (DK8.out.put 3 0 _ rfl)
     clear DK8
     generalize World.setCells _ _ _ _=v13 at DK9 ⊢
     change Till _ _ _ _∧wpAnyT _ _ _ _ _ _ _ _ _ _
     refine⟨fun h=>by simp at h,?_⟩
     try simp only [Za,Zb,Zc]
     refine till_done (by kernel_rfl) ?_
     go_wp2_with fail
     go_meet
     case rel=>exact⟨_,rfl,DK9⟩
   ·go_wp2_with fail
    have DK6:=Zh (p:=Desk w (v9.alloc (.cells #[Z O 0,Z O 0] 32)) (fun _=>False) C B bef aft l c made N kv tv m [(gD,55,[Z O kind,Z O day,Zs code,Zs other,Z O al,Z O ah,Z O bl,Z O bh]),(gS,49,[Zs code,Z O dl,Z O dh,Z O wl,Z O wh,Z O pil,Z O boi,Zl fa fn fc]),(gX,32,[Z O m1.lo,Z O m1.hi]),(v9.heap.size,32,[Z O 0,Z O 0])]) (DK5.out.alloc 32 [Z O 0,Z O 0] rfl)
    generalize World.alloc _ _=v10 at DK6 ⊢
    generalize v9.heap.size=gY at DK6 ⊢
    have HT:=MK7 v10 ⟨(DK6.out.loc 0 _ _ _ rfl).1,(DK6.out.loc 1 _ _ _ rfl).1⟩
    refine⟨fun _=>HT.out,?_⟩
    try simp only [Za,Zb,Zc]
    refine till_only (j:=6) (by kernel_rfl) rfl ?_
    go_wp2_with (go_at_call 100;refine(difference_up HUA.out (by decide) HUD.out HV8.out Ed2.out _).mono ?_;rintro e v11 ⟨rfl,hb⟩;have DK7:=Zh (DK6.out.below hb);clear hb)
    have HT:=MK7 v11 ⟨(DK7.out.loc 0 _ _ _ rfl).1,(DK7.out.loc 1 _ _ _ rfl).1⟩
    refine⟨fun _=>HT.out,?_⟩
    try simp only [Za,Zb,Zc]
    refine till_only (j:=7) (by kernel_rfl) rfl ?_
    go_wp2_with (go_at_call 105;refine(common_fit HFW.out HF2.out Em2.out _).mono ?_;rintro e v12 ⟨rfl,hb⟩;have DK8:=Zh (DK7.out.below hb);clear hb)
    have HT:=MK7 v12 ⟨(DK8.out.loc 0 _ _ _ rfl).1,(DK8.out.loc 1 _ _ _ rfl).1⟩
    refine⟨fun _=>HT.out,?_⟩
    try simp only [Za,Zb,Zc]
    refine till_only (j:=9) (by kernel_rfl) rfl ?_
    have HE:=Zh (p:=v12.there gY 0 2) ((DK8.out.loc 3 _ _ _ rfl).1.there (o:=0) (n:=2) (Zn rfl))
    refine Zw rfl 32 (.tmp 6) (.tmp 26) rfl gY 0 #[Z O m2.lo,Z O m2.hi] rfl rfl HE.out size_bounds (by simp [Value.oneCell']) ?_
    change wpList _ _ _ _ _ (v12.setCells gY 0 [Z O m2.lo,Z O m2.hi])
    clear HE
    have DK9:=Zh (p:=Desk w (v12.setCells gY 0 [Z O m2.lo,Z O m2.hi]) (fun _=>False) C B bef aft l c made N kv tv m [(gD,55,[Z O kind,Z O day,Zs code,Zs other,Z O al,Z O ah,Z O bl,Z O bh]),(gS,49,[Zs code,Z O dl,Z O dh,Z O wl,Z O wh,Z O pil,Z O boi,Zl fa fn fc]),(gX,32,[Z O m1.lo,Z O m1.hi]),(gY,32,[Z O m2.lo,Z O m2.hi])]) (DK8.out.put 3 0 _ rfl)
    clear DK8
    generalize World.setCells _ _ _ _=v13 at DK9 ⊢
    change Till _ _ _ _∧wpAnyT _ _ _ _ _ _ _ _ _ _
    refine⟨fun h=>by simp at h,?_⟩
    try simp only [Za,Zb,Zc]
    refine till_done (by kernel_rfl) ?_
    go_wp2_with fail
    go_meet
    case rel=>exact⟨_,rfl,DK9⟩
  case rest =>
   obtain⟨gY,rfl,DK5⟩:=hcut
   have x0:=DK5.out.at 2 0 (v:=Z O m1.lo) rfl rfl
   have x1:=DK5.out.at 2 1 (v:=Z O m1.hi) rfl rfl
   have y0:=DK5.out.at 3 0 (v:=Z O m2.lo) rfl rfl
   have y1:=DK5.out.at 3 1 (v:=Z O m2.hi) rfl rfl
   go_wp2_with (go_at_call 98;refine(need_false _ _).mono ?_;rintro e w2 ⟨rfl,rfl⟩)
   exact⟨rfl,rfl,DK5.out.quiet⟩
end Go.Proofs.Ytgekekhbhkgekaa
