/- A deed: sell. -/
import Derived.Test.YtgekekhbhkgekaaRYClone
namespace Go.Proofs.Ytgekekhbhkgekaa
open Go Go.RowKit Yd
open _root_.Go.Value renaming int → Z, string → Zs, slice → Zl
open _root_.Go.IntKind renaming i64 → O
open _root_.Go.Lib renaming hid → Zh
open _root_.Nat renaming le_of_ble_eq_true → Zn
open _root_.Go renaming wpList_store_mid → Zw, cell_regrown → Zg, below_regrown → Zk
set_option maxRecDepth 100000
set_option maxHeartbeats 16000000
theorem sell_no {w:World}{C:Nat→Prop}{B:Nat}{bef aft:Int}{l:List SRow}{c:Yd.Acc}{made:Int}{N:Nat}{kv tv:Value}{m:Nat}(h:Book w C B bef aft l c made N kv tv m)
  (kind day:Int) (code other:Code) (al ah bl bh:Int) (hs:code.size≤maxLen) (hC:∀ k,C k→k<w.heap.size) (hn:ixOf l code=none) :
  Calls Try.prog 91 #[.pointer (some ⟨B,0,none⟩),.agg #[Z O kind,Z O day,Zs code,Zs other,Z O al,Z O ah,Z O bl,Z O bh]] w fun e w'=>e=.panicked (faulty 1)∧Below w.heap.size w w':=by
 have DK1:=Zh (boxed_deed h hC [Z O kind,Z O day,Zs code,Zs other,Z O al,Z O ah,Z O bl,Z O bh])
 have HS:=Zh hs;have HN:=Zh hn
 clear h hs hn hC
 go_enter Try.func91,Try.ntmps91
 go_wp2_with (go_at_call 94;refine(stack_no DK1.out.book code HS.out HN.out).mono ?_;rintro e w1 ⟨rfl,hb1⟩;have DK2:=Zh (DK1.out.below hb1);clear hb1)
 exact⟨rfl,rfl,DK2.out.quiet⟩
theorem sell_soon {w:World}{C:Nat→Prop}{B:Nat}{bef aft:Int}{l:List SRow}{c:Yd.Acc}{made:Int}{N:Nat}{kv tv:Value}{m:Nat}(h:Book w C B bef aft l c made N kv tv m)
  (kind day:Int) (code other:Code) (al ah bl bh:Int) (hs:code.size≤maxLen) (hC:∀ k,C k→k<w.heap.size) (dl dh wl wh pil boi:Int) (src:List Int) (fa:Option Addr) (fn fc:Nat) {k:Nat} (hk:ixOf l code=some k) (hp:l[k]? = some (⟨code,⟨dl,dh⟩,⟨wl,wh⟩,pil,boi,src⟩,Zl fa fn fc)) (hd:0≤day∧day≤2000) (hb : -1≤boi∧boi≤2000) (hr:restedB aft (⟨code,⟨dl,dh⟩,⟨wl,wh⟩,pil,boi,src⟩:Stk Code) day=false) :
  Calls Try.prog 91 #[.pointer (some ⟨B,0,none⟩),.agg #[Z O kind,Z O day,Zs code,Zs other,Z O al,Z O ah,Z O bl,Z O bh]] w fun e w'=>e=.panicked (faulty 3)∧Below w.heap.size w w':=by
 have HDAY:=Zh (show 0≤day∧day≤1000000 by omega)
 have HBOI:=Zh (show -1≤boi∧boi≤1000000 by omega)
 have HR:=Zh hr
 clear hd hb hr
 have DK1:=Zh (boxed_deed h hC [Z O kind,Z O day,Zs code,Zs other,Z O al,Z O ah,Z O bl,Z O bh])
 have hz1:(w.alloc (.cells #[Z O kind,Z O day,Zs code,Zs other,Z O al,Z O ah,Z O bl,Z O bh] 55)).heap.size=w.heap.size+1:=World.size_alloc _ _
 have HS:=Zh hs;have HK:=Zh hk;have HP:=Zh hp;have HC:=Zh hC
 clear h hs hk hp hC
 go_enter Try.func91,Try.ntmps91
 go_upto_region 2 with(first
  | (go_at_call 94;refine(stack_yes DK1.out.book code HS.out HK.out HP.out).mono ?_;rintro e w1 ⟨rfl,hb1⟩;have DK2:=Zh ((DK1.out.below hb1).alloc 49 [Zs ⟨#[]⟩,Z O 0,Z O 0,Z O 0,Z O 0,Z O 0,Z O 0,Zl none 0 0] rfl);clear hb1)
  | ((with_reducible refine at_store 49 (.tmp 4) (.tmp 8) ?_);go_must (refine Zw rfl 49 (.tmp 4) (.tmp 8) rfl w1.heap.size 0 #[Zs code,Z O dl,Z O dh,Z O wl,Z O wh,Z O pil,Z O boi,Zl fa fn fc] rfl rfl ((DK2.out.loc 1 _ _ _ rfl).1.there (o:=0) (n:=8) (Zn rfl)) size_stack (by simp [Value.oneCell']) ?_)))
 have hgS:=(DK2.out.far 1 rfl).1
 have DK3:=Zh (p:=Desk w ((w1.alloc (.cells #[Zs ⟨#[]⟩,Z O 0,Z O 0,Z O 0,Z O 0,Z O 0,Z O 0,Zl none 0 0] 49)).setCells w1.heap.size 0 [Zs code,Z O dl,Z O dh,Z O wl,Z O wh,Z O pil,Z O boi,Zl fa fn fc]) (fun _=>False) C B bef aft l c made N kv tv m [(w.heap.size,55,[Z O kind,Z O day,Zs code,Zs other,Z O al,Z O ah,Z O bl,Z O bh]),(w1.heap.size,49,[Zs code,Z O dl,Z O dh,Z O wl,Z O wh,Z O pil,Z O boi,Zl fa fn fc])]) (DK2.out.put 1 0 _ rfl)
 clear DK2
 generalize((w1.alloc (.cells #[Zs ⟨#[]⟩,Z O 0,Z O 0,Z O 0,Z O 0,Z O 0,Z O 0,Zl none 0 0] 49)).setCells w1.heap.size 0 [Zs code,Z O dl,Z O dh,Z O wl,Z O wh,Z O pil,Z O boi,Zl fa fn fc])=W3 at DK3 ⊢
 obtain⟨gD,hgD⟩:∃ g,g=w.heap.size:=⟨_,rfl⟩
 obtain⟨gS,hgS2⟩:∃ g,g=w1.heap.size:=⟨_,rfl⟩
 rw [← hgD,← hgS2]at DK3 ⊢
 have HZ:=Zh (And.intro hgD hgS2)
 clear hgD hgS2 hgS hz1
 simp only [Act.put]
 have s0:=DK3.out.at 1 0 (v:=Zs code) rfl rfl
 have s1:=DK3.out.at 1 1 (v:=Z O dl) rfl rfl
 have s2:=DK3.out.at 1 2 (v:=Z O dh) rfl rfl
 have s3:=DK3.out.at 1 3 (v:=Z O wl) rfl rfl
 have s4:=DK3.out.at 1 4 (v:=Z O wh) rfl rfl
 have s5:=DK3.out.at 1 5 (v:=Z O pil) rfl rfl
 have s6:=DK3.out.at 1 6 (v:=Z O boi) rfl rfl
 have s7:=DK3.out.at 1 7 (v:=Zl fa fn fc) rfl rfl
 have t1:=DK3.out.at 0 1 (v:=Z O day) rfl rfl
 go_upto_region 3 with(go_at_call 99;refine(rested_no DK3.out.book ⟨code,⟨dl,dh⟩,⟨wl,wh⟩,pil,boi,src⟩ fa fn fc day HDAY.out HBOI.out HR.out).mono ?_;rintro e w4 ⟨rfl,hb4⟩;have DK4:=Zh (DK3.out.below hb4);clear hb4)
 exact⟨rfl,rfl,DK4.out.quiet⟩
theorem sell_ok {w:World}{C:Nat→Prop}{B:Nat}{bef aft:Int}{l:List SRow}{c:Yd.Acc}{made:Int}{N:Nat}{kv tv:Value}{m:Nat}(h:Book w C B bef aft l c made N kv tv m)
  (kind day:Int) (code other:Code) (al ah bl bh:Int) (hs:code.size≤maxLen) (hC:∀ k,C k→k<w.heap.size) (dl dh wl wh pil boi:Int) (src:List Int) (fa:Option Addr) (fn fc:Nat) (V:Int) (hV:V≤2000000000000000) {k:Nat} (hk:ixOf l code=some k) (hp:l[k]? = some (⟨code,⟨dl,dh⟩,⟨wl,wh⟩,pil,boi,src⟩,Zl fa fn fc)) (hd:0≤day∧day≤2000) (hb : -1≤boi∧boi≤2000) (hr:restedB aft (⟨code,⟨dl,dh⟩,⟨wl,wh⟩,pil,boi,src⟩:Stk Code) day=true) (ud:Bd.Up ⟨dl,dh⟩ V) (uw:Bd.Up ⟨wl,wh⟩ V) (u4:c.soldDry.Up V) (u5:c.soldWater.Up V) (hN:N+10≤1000000) :
  Calls Try.prog 91 #[.pointer (some ⟨B,0,none⟩),.agg #[Z O kind,Z O day,Zs code,Zs other,Z O al,Z O ah,Z O bl,Z O bh]] w (DropDone w C B bef aft (l.eraseIdx k) { c with soldDry:=c.soldDry.add ⟨dl,dh⟩,soldWater:=c.soldWater.add ⟨wl,wh⟩ } made (N+10) m):=by
 have HUD:=Zh ud;have HUW:=Zh uw;have HU4:=Zh u4;have HU5:=Zh u5;have HN:=Zh hN
 have HV8:=Zh (p:=V≤8000000000000000) (Int.le_trans hV (by decide))
 clear ud uw u4 u5 hN
 have HDAY:=Zh (show 0≤day∧day≤1000000 by omega)
 have HBOI:=Zh (show -1≤boi∧boi≤1000000 by omega)
 have HR:=Zh hr
 clear hd hb hr
 obtain⟨s4,hs4⟩:∃ b:Bd,b=c.soldDry.add ⟨dl,dh⟩:=⟨_,rfl⟩
 have Es4:=Zh hs4;clear hs4
 obtain⟨s5,hs5⟩:∃ b:Bd,b=c.soldWater.add ⟨wl,wh⟩:=⟨_,rfl⟩
 have Es5:=Zh hs5;clear hs5
 have DK1:=Zh (boxed_deed h hC [Z O kind,Z O day,Zs code,Zs other,Z O al,Z O ah,Z O bl,Z O bh])
 have hz1:(w.alloc (.cells #[Z O kind,Z O day,Zs code,Zs other,Z O al,Z O ah,Z O bl,Z O bh] 55)).heap.size=w.heap.size+1:=World.size_alloc _ _
 have HS:=Zh hs;have HK:=Zh hk;have HP:=Zh hp;have HC:=Zh hC
 clear h hs hk hp hC
 go_enter Try.func91,Try.ntmps91
 go_upto_region 2 with(first
  | (go_at_call 94;refine(stack_yes DK1.out.book code HS.out HK.out HP.out).mono ?_;rintro e w1 ⟨rfl,hb1⟩;have DK2:=Zh ((DK1.out.below hb1).alloc 49 [Zs ⟨#[]⟩,Z O 0,Z O 0,Z O 0,Z O 0,Z O 0,Z O 0,Zl none 0 0] rfl);clear hb1)
  | ((with_reducible refine at_store 49 (.tmp 4) (.tmp 8) ?_);go_must (refine Zw rfl 49 (.tmp 4) (.tmp 8) rfl w1.heap.size 0 #[Zs code,Z O dl,Z O dh,Z O wl,Z O wh,Z O pil,Z O boi,Zl fa fn fc] rfl rfl ((DK2.out.loc 1 _ _ _ rfl).1.there (o:=0) (n:=8) (Zn rfl)) size_stack (by simp [Value.oneCell']) ?_)))
 have hgS:=(DK2.out.far 1 rfl).1
 have DK3:=Zh (p:=Desk w ((w1.alloc (.cells #[Zs ⟨#[]⟩,Z O 0,Z O 0,Z O 0,Z O 0,Z O 0,Z O 0,Zl none 0 0] 49)).setCells w1.heap.size 0 [Zs code,Z O dl,Z O dh,Z O wl,Z O wh,Z O pil,Z O boi,Zl fa fn fc]) (fun _=>False) C B bef aft l c made N kv tv m [(w.heap.size,55,[Z O kind,Z O day,Zs code,Zs other,Z O al,Z O ah,Z O bl,Z O bh]),(w1.heap.size,49,[Zs code,Z O dl,Z O dh,Z O wl,Z O wh,Z O pil,Z O boi,Zl fa fn fc])]) (DK2.out.put 1 0 _ rfl)
 clear DK2
 generalize((w1.alloc (.cells #[Zs ⟨#[]⟩,Z O 0,Z O 0,Z O 0,Z O 0,Z O 0,Z O 0,Zl none 0 0] 49)).setCells w1.heap.size 0 [Zs code,Z O dl,Z O dh,Z O wl,Z O wh,Z O pil,Z O boi,Zl fa fn fc])=W3 at DK3 ⊢
 obtain⟨gD,hgD⟩:∃ g,g=w.heap.size:=⟨_,rfl⟩
 obtain⟨gS,hgS2⟩:∃ g,g=w1.heap.size:=⟨_,rfl⟩
 rw [← hgD,← hgS2]at DK3 ⊢
 have HZ:=Zh (And.intro hgD hgS2)
 clear hgD hgS2 hgS hz1
 simp only [Act.put]
 have s0:=DK3.out.at 1 0 (v:=Zs code) rfl rfl
 have s1:=DK3.out.at 1 1 (v:=Z O dl) rfl rfl
 have s2:=DK3.out.at 1 2 (v:=Z O dh) rfl rfl
 have s3:=DK3.out.at 1 3 (v:=Z O wl) rfl rfl
 have s4:=DK3.out.at 1 4 (v:=Z O wh) rfl rfl
 have s5:=DK3.out.at 1 5 (v:=Z O pil) rfl rfl
 have s6:=DK3.out.at 1 6 (v:=Z O boi) rfl rfl
 have s7:=DK3.out.at 1 7 (v:=Zl fa fn fc) rfl rfl
 have t1:=DK3.out.at 0 1 (v:=Z O day) rfl rfl
 go_upto_region 3 with(go_at_call 99;refine(rested_ok DK3.out.book ⟨code,⟨dl,dh⟩,⟨wl,wh⟩,pil,boi,src⟩ fa fn fc day HDAY.out HBOI.out HR.out).mono ?_;rintro e w4 ⟨rfl,hb4⟩;have DK4:=Zh (DK3.out.below hb4);clear hb4)
 clear s0 s1 s2 s3 s4 s5 s6 s7 t1
 have q0:=Zg (show w4.cell? ⟨B,11,none⟩=some (Z O c.soldDry.lo)from DK4.out.own 11 rfl)
 have q1:=Zg (show w4.cell? ⟨B,12,none⟩=some (Z O c.soldDry.hi)from DK4.out.own 12 rfl)
 have q2:=Zg (DK4.out.at 1 1 (v:=Z O dl) rfl rfl)
 have q3:=Zg (DK4.out.at 1 2 (v:=Z O dh) rfl rfl)
 have k0:∀ d os,Calls Try.prog 95 #[.agg #[Z O c.soldDry.lo,Z O c.soldDry.hi],.agg #[Z O dl,Z O dh]] (Go.Sort.grow (redrawn w4 d) os) fun e w''=>e=.returned (.agg #[Z O s4.lo,Z O s4.hi])∧∃ p:Regrown,w''=Go.Sort.grow (redrawn w4 p.d) p.os:=regrown_calls (fun w=>by exact sum_up HU4.out HV8.out HUD.out HV8.out Es4.out w)
 refine region_split_below 12 (by kernel_rfl) (by kernel_rfl) (by kernel_rfl) ?_
 simp only [List.take_succ_cons,List.take_zero,List.drop_succ_cons,List.drop_zero]
 repeat(go_big_quiet_step (first|(with_reducible exact k0 _ _)))
 refine wpQuiet_nil ?_
 intro v0 hw'
 have hb8:Below w4.heap.size w4 v0:=by obtain⟨⟨dq,osq⟩,hw''⟩:=hw';rw [hw''];exact Zk w4 dq osq
 clear hw' q0 q1 q2 q3 k0
 have DK5:=Zh (p:=Desk w v0 (fun _=>False) C B bef aft l c made N kv tv m [(gD,55,[Z O kind,Z O day,Zs code,Zs other,Z O al,Z O ah,Z O bl,Z O bh]),(gS,49,[Zs code,Z O dl,Z O dh,Z O wl,Z O wh,Z O pil,Z O boi,Zl fa fn fc])]) (DK4.out.below hb8)
 clear DK4
 clear hb8
 have HE:=Zh (p:=v0.there B 11 2) (DK5.out.book.blk.there (o:=11) (n:=2) (Zn rfl))
 refine Zw rfl 32 (.tmp 25) (.tmp 22) rfl B 11 #[Z O s4.lo,Z O s4.hi] rfl rfl HE.out size_bounds (by simp [Value.oneCell']) ?_
 change wpList _ _ _ _ _ (v0.setCells B 11 [Z O s4.lo,Z O s4.hi])
 clear HE
 have DK6:=Zh (show Desk w (v0.setCells B 11 [Z O s4.lo,Z O s4.hi]) C C B bef aft l { c with soldDry:=s4 } made N kv tv m [(gD,55,[Z O kind,Z O day,Zs code,Zs other,Z O al,Z O ah,Z O bl,Z O bh]),(gS,49,[Zs code,Z O dl,Z O dh,Z O wl,Z O wh,Z O pil,Z O boi,Zl fa fn fc])]from DK5.out.setOwn [Z O bef,Z O aft,kv,tv,.map (some m),Z O c.vapour.lo,Z O c.vapour.hi,Z O c.broth.lo,Z O c.broth.hi,Z O c.dust.lo,Z O c.dust.hi] [Z O c.soldDry.lo,Z O c.soldDry.hi] [Z O c.soldWater.lo,Z O c.soldWater.hi,Z O c.soaked.lo,Z O c.soaked.hi,Z O made] [Z O s4.lo,Z O s4.hi] rfl rfl rfl (fun _ f=>f.elim))
 clear DK5
 generalize World.setCells _ _ _ _=v1 at DK6 ⊢
 simp only [Act.put]
 go_upto_region 4 with fail
 have q0:=Zg (show v1.cell? ⟨B,13,none⟩=some (Z O c.soldWater.lo)from DK6.out.own 13 rfl)
 have q1:=Zg (show v1.cell? ⟨B,14,none⟩=some (Z O c.soldWater.hi)from DK6.out.own 14 rfl)
 have q2:=Zg (DK6.out.at 1 3 (v:=Z O wl) rfl rfl)
 have q3:=Zg (DK6.out.at 1 4 (v:=Z O wh) rfl rfl)
 have k0:∀ d os,Calls Try.prog 95 #[.agg #[Z O c.soldWater.lo,Z O c.soldWater.hi],.agg #[Z O wl,Z O wh]] (Go.Sort.grow (redrawn v1 d) os) fun e w''=>e=.returned (.agg #[Z O s5.lo,Z O s5.hi])∧∃ p:Regrown,w''=Go.Sort.grow (redrawn v1 p.d) p.os:=regrown_calls (fun w=>by exact sum_up HU5.out HV8.out HUW.out HV8.out Es5.out w)
 refine region_split_below 12 (by kernel_rfl) (by kernel_rfl) (by kernel_rfl) ?_
 simp only [List.take_succ_cons,List.take_zero,List.drop_succ_cons,List.drop_zero]
 repeat(go_big_quiet_step (first|(with_reducible exact k0 _ _)))
 refine wpQuiet_nil ?_
 intro v2 hw'
 have hb8:Below v1.heap.size v1 v2:=by obtain⟨⟨dq,osq⟩,hw''⟩:=hw';rw [hw''];exact Zk v1 dq osq
 clear hw' q0 q1 q2 q3 k0
 have DK7:=Zh (show Desk w v2 C C B bef aft l { c with soldDry:=s4 } made N kv tv m [(gD,55,[Z O kind,Z O day,Zs code,Zs other,Z O al,Z O ah,Z O bl,Z O bh]),(gS,49,[Zs code,Z O dl,Z O dh,Z O wl,Z O wh,Z O pil,Z O boi,Zl fa fn fc])]from DK6.out.below hb8)
 clear DK6
 clear hb8
 have HE:=Zh (p:=v2.there B 13 2) (DK7.out.book.blk.there (o:=13) (n:=2) (Zn rfl))
 refine Zw rfl 32 (.tmp 37) (.tmp 34) rfl B 13 #[Z O s5.lo,Z O s5.hi] rfl rfl HE.out size_bounds (by simp [Value.oneCell']) ?_
 change wpList _ _ _ _ _ (v2.setCells B 13 [Z O s5.lo,Z O s5.hi])
 clear HE
 have DK8:=Zh (show Desk w (v2.setCells B 13 [Z O s5.lo,Z O s5.hi]) C C B bef aft l { { c with soldDry:=s4 } with soldWater:=s5 } made N kv tv m [(gD,55,[Z O kind,Z O day,Zs code,Zs other,Z O al,Z O ah,Z O bl,Z O bh]),(gS,49,[Zs code,Z O dl,Z O dh,Z O wl,Z O wh,Z O pil,Z O boi,Zl fa fn fc])]from DK7.out.setOwn [Z O bef,Z O aft,kv,tv,.map (some m),Z O c.vapour.lo,Z O c.vapour.hi,Z O c.broth.lo,Z O c.broth.hi,Z O c.dust.lo,Z O c.dust.hi,Z O s4.lo,Z O s4.hi] [Z O c.soldWater.lo,Z O c.soldWater.hi] [Z O c.soaked.lo,Z O c.soaked.hi,Z O made] [Z O s5.lo,Z O s5.hi] rfl rfl rfl (fun _ h=>h))
 clear DK7
 generalize World.setCells _ _ _ _=v3 at DK8 ⊢
 simp only [Act.put]
 go_upto_region 5 with fail
 have q0:=Zg (DK8.out.at 1 0 (v:=Zs code) rfl rfl)
 refine region_split_below 5 (by kernel_rfl) (by kernel_rfl) (by kernel_rfl) ?_
 simp only [List.take_succ_cons,List.take_zero,List.drop_succ_cons,List.drop_zero]
 repeat(go_big_quiet_step (fail))
 refine wpQuiet_nil ?_
 intro v4 hw'
 have hb8:Below v3.heap.size v3 v4:=by obtain⟨⟨dq,osq⟩,hw''⟩:=hw';rw [hw''];exact Zk v3 dq osq
 clear hw' q0
 have DK9:=Zh (show Desk w v4 C C B bef aft l { { c with soldDry:=s4 } with soldWater:=s5 } made N kv tv m [(gD,55,[Z O kind,Z O day,Zs code,Zs other,Z O al,Z O ah,Z O bl,Z O bh]),(gS,49,[Zs code,Z O dl,Z O dh,Z O wl,Z O wh,Z O pil,Z O boi,Zl fa fn fc])]from DK8.out.below hb8)
 clear DK8
 clear hb8
 go_wp2_with (go_at_call 104;refine(drop_calls DK9.out.book code HS.out HK.out HP.out HN.out).mono ?_;rintro e w9 ⟨rfl,hb9,hk9⟩;have HB9:=Zh (DK9.out.beside.trans hb9 (fun k hk=>.inl hk));have HK9:=Zh hk9;have HZ9:=Zh DK9.out.beside.size;clear hb9 hk9)
 go_end0
 have zs4:=Es4.out;have zs5:=Es5.out
 subst zs5 zs4
 exact⟨rfl,HB9.out,by obtain⟨kv',tv',hk⟩:=HK9.out;exact⟨kv',tv',hk⟩⟩
end Go.Proofs.Ytgekekhbhkgekaa
