/- A deed: boil. -/
import Derived.Test.YtgekekhbhkgekaaRYClone
namespace Go.Proofs.Ytgekekhbhkgekaa
open Go Go.RowKit Yd
open _root_.Go.Value renaming int → Z, string → Zs, slice → Zl
open _root_.Go.IntKind renaming i64 → O
open _root_.Go.Lib renaming hid → Zh
open _root_.Nat renaming le_of_ble_eq_true → Zn
open _root_.Go renaming wpList_store_mid → Zw, cell_regrown → Zg, below_regrown → Zk
set_option maxRecDepth 100000
set_option maxHeartbeats 16000000
theorem boil_no {w:World}{C:Nat→Prop}{B:Nat}{bef aft:Int}{l:List SRow}{c:Yd.Acc}{made:Int}{N:Nat}{kv tv:Value}{m:Nat}(h:Book w C B bef aft l c made N kv tv m)
  (kind day:Int) (code other:Code) (al ah bl bh:Int) (hs:code.size≤maxLen) (hC:∀ k,C k→k<w.heap.size) (hn:ixOf l code=none) :
  Calls Try.prog 86 #[.pointer (some ⟨B,0,none⟩),.agg #[Z O kind,Z O day,Zs code,Zs other,Z O al,Z O ah,Z O bl,Z O bh]] w fun e w'=>e=.panicked (faulty 1)∧Below w.heap.size w w':=by
 have DK1:=Zh (boxed_deed h hC [Z O kind,Z O day,Zs code,Zs other,Z O al,Z O ah,Z O bl,Z O bh])
 have HS:=Zh hs;have HN:=Zh hn
 clear h hs hn hC
 go_enter Try.func86,Try.ntmps86
 go_wp2_with (go_at_call 94;refine(stack_no DK1.out.book code HS.out HN.out).mono ?_;rintro e w1 ⟨rfl,hb1⟩;have DK2:=Zh (DK1.out.below hb1);clear hb1)
 exact⟨rfl,rfl,DK2.out.quiet⟩
theorem boil_soon {w:World}{C:Nat→Prop}{B:Nat}{bef aft:Int}{l:List SRow}{c:Yd.Acc}{made:Int}{N:Nat}{kv tv:Value}{m:Nat}(h:Book w C B bef aft l c made N kv tv m)
  (kind day:Int) (code other:Code) (al ah bl bh:Int) (hs:code.size≤maxLen) (hC:∀ k,C k→k<w.heap.size) (dl dh wl wh pil boi:Int) (src:List Int) (fa:Option Addr) (fn fc:Nat) {k:Nat} (hk:ixOf l code=some k) (hp:l[k]? = some (⟨code,⟨dl,dh⟩,⟨wl,wh⟩,pil,boi,src⟩,Zl fa fn fc)) (hd:0≤day∧day≤2000) (hpl:0≤pil∧pil≤2000) (hsoon:¬ bef≤day-pil) :
  Calls Try.prog 86 #[.pointer (some ⟨B,0,none⟩),.agg #[Z O kind,Z O day,Zs code,Zs other,Z O al,Z O ah,Z O bl,Z O bh]] w fun e w'=>e=.panicked (faulty 3)∧Below w.heap.size w w':=by
 obtain⟨hd0,hd1⟩:=hd
 obtain⟨hp0,hp1⟩:=hpl
 have d3:decide (bef≤day-pil)=false:=by simpa using hsoon
 clear hsoon
 have DK1:=Zh (boxed_deed h hC [Z O kind,Z O day,Zs code,Zs other,Z O al,Z O ah,Z O bl,Z O bh])
 have hz1:(w.alloc (.cells #[Z O kind,Z O day,Zs code,Zs other,Z O al,Z O ah,Z O bl,Z O bh] 55)).heap.size=w.heap.size+1:=World.size_alloc _ _
 have HS:=Zh hs;have HK:=Zh hk;have HP:=Zh hp;have HC:=Zh hC
 clear h hs hk hp hC
 go_enter Try.func86,Try.ntmps86
 go_upto_region 2 with(first
  | (go_at_call 94;refine(stack_yes DK1.out.book code HS.out HK.out HP.out).mono ?_;rintro e w1 ⟨rfl,hb1⟩;have DK2:=Zh ((DK1.out.below hb1).alloc 49 [Zs ⟨#[]⟩,Z O 0,Z O 0,Z O 0,Z O 0,Z O 0,Z O 0,Zl none 0 0] rfl);clear hb1)
  | ((with_reducible refine at_store 49 (.tmp 4) (.tmp 9) ?_);go_must (refine Zw rfl 49 (.tmp 4) (.tmp 9) rfl w1.heap.size 0 #[Zs code,Z O dl,Z O dh,Z O wl,Z O wh,Z O pil,Z O boi,Zl fa fn fc] rfl rfl ((DK2.out.loc 1 _ _ _ rfl).1.there (o:=0) (n:=8) (Zn rfl)) size_stack (by simp [Value.oneCell']) ?_)))
 have hgS:=(DK2.out.far 1 rfl).1
 have DK3:=Zh (p:=Desk w ((w1.alloc (.cells #[Zs ⟨#[]⟩,Z O 0,Z O 0,Z O 0,Z O 0,Z O 0,Z O 0,Zl none 0 0] 49)).setCells w1.heap.size 0 [Zs code,Z O dl,Z O dh,Z O wl,Z O wh,Z O pil,Z O boi,Zl fa fn fc]) (fun _=>False) C B bef aft l c made N kv tv m [(w.heap.size,55,[Z O kind,Z O day,Zs code,Zs other,Z O al,Z O ah,Z O bl,Z O bh]),(w1.heap.size,49,[Zs code,Z O dl,Z O dh,Z O wl,Z O wh,Z O pil,Z O boi,Zl fa fn fc])]) (DK2.out.put 1 0 _ rfl)
 clear DK2
 generalize((w1.alloc (.cells #[Zs ⟨#[]⟩,Z O 0,Z O 0,Z O 0,Z O 0,Z O 0,Z O 0,Zl none 0 0] 49)).setCells w1.heap.size 0 [Zs code,Z O dl,Z O dh,Z O wl,Z O wh,Z O pil,Z O boi,Zl fa fn fc])=W3 at DK3 ⊢
 obtain⟨gD,hgD⟩:∃ g,g=w.heap.size:=⟨_,rfl⟩
 obtain⟨gS,hgS2⟩:∃ g,g=w1.heap.size:=⟨_,rfl⟩
 rw [← hgD,← hgS2]at DK3 ⊢
 have HZ:=Zh (And.intro hgD hgS2)
 clear hgD hgS2 hgS hz1
 simp only [Act.put]
 have q0:=Zg (DK3.out.at 0 1 (v:=Z O day) rfl rfl)
 have q1:=Zg (DK3.out.at 1 5 (v:=Z O pil) rfl rfl)
 have q2:=Zg (show W3.cell? ⟨B,0,none⟩=some (Z O bef)from DK3.out.own 0 rfl)
 refine region_split_below 10 (by kernel_rfl) (by kernel_rfl) (by kernel_rfl) ?_
 simp only [List.take_succ_cons,List.take_zero,List.drop_succ_cons,List.drop_zero]
 repeat(go_big_quiet_step (fail))
 refine wpQuiet_nil ?_
 intro v0 hw'
 have hb8:Below W3.heap.size W3 v0:=by obtain⟨⟨dq,osq⟩,hw''⟩:=hw';rw [hw''];exact Zk W3 dq osq
 clear hw' q0 q1 q2
 have DK4:=Zh (p:=Desk w v0 (fun _=>False) C B bef aft l c made N kv tv m [(gD,55,[Z O kind,Z O day,Zs code,Zs other,Z O al,Z O ah,Z O bl,Z O bh]),(gS,49,[Zs code,Z O dl,Z O dh,Z O wl,Z O wh,Z O pil,Z O boi,Zl fa fn fc])]) (DK3.out.below hb8)
 clear DK3
 clear hb8
 go_wp2_with (go_at_call 98;refine(need_false _ _).mono ?_;rintro e w2 ⟨rfl,rfl⟩)
 exact⟨rfl,rfl,DK4.out.quiet⟩
theorem boil_ok {w:World}{C:Nat→Prop}{B:Nat}{bef aft:Int}{l:List SRow}{c:Yd.Acc}{made:Int}{N:Nat}{kv tv:Value}{m:Nat}(h:Book w C B bef aft l c made N kv tv m)
  (kind day:Int) (code other:Code) (al ah bl bh:Int) (hs:code.size≤maxLen) (hC:∀ k,C k→k<w.heap.size) (dl dh wl wh pil boi:Int) (src:List Int) (fa:Option Addr) (fn fc:Nat) (V:Int) (hV:V≤2000000000000000) {k:Nat} (hk:ixOf l code=some k) (hp:l[k]? = some (⟨code,⟨dl,dh⟩,⟨wl,wh⟩,pil,boi,src⟩,Zl fa fn fc)) (hd:0≤day∧day≤2000) (hpl:0≤pil∧pil≤2000) (hrest:bef≤day-pil) (ud:Bd.Up ⟨dl,dh⟩ V) (uw:Bd.Up ⟨wl,wh⟩ V) (ua:Bd.Up ⟨al,ah⟩ 1000) (ub:Bd.Up ⟨bl,bh⟩ 3000) (u2:c.broth.Up V) (u6:c.soaked.Up V) :
  Calls Try.prog 86 #[.pointer (some ⟨B,0,none⟩),.agg #[Z O kind,Z O day,Zs code,Zs other,Z O al,Z O ah,Z O bl,Z O bh]] w fun e w'=>e=.returned (.tuple #[])∧Beside C w w'∧Book w' C B bef aft (l.set k (⟨code,Bd.left ⟨dl,dh⟩ ⟨al,ah⟩,Bd.add ⟨wl,wh⟩ (Bd.part ⟨dl,dh⟩ ⟨bl,bh⟩),pil,day,src⟩,Zl fa fn fc)) { c with broth:=c.broth.add (Bd.part ⟨dl,dh⟩ ⟨al,ah⟩),soaked:=c.soaked.add (Bd.part ⟨dl,dh⟩ ⟨bl,bh⟩) } made N kv tv m:=by
 obtain⟨hd0,hd1⟩:=hd
 obtain⟨hp0,hp1⟩:=hpl
 have d3:decide (bef≤day-pil)=true:=by simpa using hrest
 have HUD:=Zh ud;have HUW:=Zh uw;have HUA:=Zh (up_mono ua (show(1000:Int)≤3000 by decide));have HUB:=Zh ub;have HU2:=Zh u2;have HU6:=Zh u6
 have HUP2:=Zh (up_soak ud ub);have HUP1:=Zh (up_part ud ua)
 have HV8:=Zh (p:=V≤8000000000000000) (Int.le_trans hV (by decide));have HV9:=Zh (show 3*V≤8000000000000000 by omega)
 clear hrest ud uw ua ub u2 u6
 obtain⟨p2,hp2⟩:∃ b:Bd,b=Bd.part ⟨dl,dh⟩ ⟨bl,bh⟩:=⟨_,rfl⟩
 have Ep2:=Zh hp2;clear hp2
 obtain⟨s6,hs6⟩:∃ b:Bd,b=c.soaked.add p2:=⟨_,rfl⟩
 have Es6:=Zh hs6;clear hs6
 obtain⟨p1,hp1⟩:∃ b:Bd,b=Bd.part ⟨dl,dh⟩ ⟨al,ah⟩:=⟨_,rfl⟩
 have Ep1:=Zh hp1;clear hp1
 obtain⟨s2,hs2⟩:∃ b:Bd,b=c.broth.add p1:=⟨_,rfl⟩
 have Es2:=Zh hs2;clear hs2
 obtain⟨w2b,hw2b⟩:∃ b:Bd,b=Bd.add ⟨wl,wh⟩ p2:=⟨_,rfl⟩
 have Ew2b:=Zh hw2b;clear hw2b
 obtain⟨r1,hr1⟩:∃ b:Bd,b=Bd.left ⟨dl,dh⟩ ⟨al,ah⟩:=⟨_,rfl⟩
 have Er1:=Zh hr1;clear hr1
 rw [← Ep2.out]at HUP2
 rw [← Ep1.out]at HUP1
 have DK1:=Zh (boxed_deed h hC [Z O kind,Z O day,Zs code,Zs other,Z O al,Z O ah,Z O bl,Z O bh])
 have hz1:(w.alloc (.cells #[Z O kind,Z O day,Zs code,Zs other,Z O al,Z O ah,Z O bl,Z O bh] 55)).heap.size=w.heap.size+1:=World.size_alloc _ _
 have HS:=Zh hs;have HK:=Zh hk;have HP:=Zh hp;have HC:=Zh hC
 clear h hs hk hp hC
 go_enter Try.func86,Try.ntmps86
 go_upto_region 2 with(first
  | (go_at_call 94;refine(stack_yes DK1.out.book code HS.out HK.out HP.out).mono ?_;rintro e w1 ⟨rfl,hb1⟩;have DK2:=Zh ((DK1.out.below hb1).alloc 49 [Zs ⟨#[]⟩,Z O 0,Z O 0,Z O 0,Z O 0,Z O 0,Z O 0,Zl none 0 0] rfl);clear hb1)
  | ((with_reducible refine at_store 49 (.tmp 4) (.tmp 9) ?_);go_must (refine Zw rfl 49 (.tmp 4) (.tmp 9) rfl w1.heap.size 0 #[Zs code,Z O dl,Z O dh,Z O wl,Z O wh,Z O pil,Z O boi,Zl fa fn fc] rfl rfl ((DK2.out.loc 1 _ _ _ rfl).1.there (o:=0) (n:=8) (Zn rfl)) size_stack (by simp [Value.oneCell']) ?_)))
 have hgS:=(DK2.out.far 1 rfl).1
 have DK3:=Zh (p:=Desk w ((w1.alloc (.cells #[Zs ⟨#[]⟩,Z O 0,Z O 0,Z O 0,Z O 0,Z O 0,Z O 0,Zl none 0 0] 49)).setCells w1.heap.size 0 [Zs code,Z O dl,Z O dh,Z O wl,Z O wh,Z O pil,Z O boi,Zl fa fn fc]) (fun _=>False) C B bef aft l c made N kv tv m [(w.heap.size,55,[Z O kind,Z O day,Zs code,Zs other,Z O al,Z O ah,Z O bl,Z O bh]),(w1.heap.size,49,[Zs code,Z O dl,Z O dh,Z O wl,Z O wh,Z O pil,Z O boi,Zl fa fn fc])]) (DK2.out.put 1 0 _ rfl)
 clear DK2
 generalize((w1.alloc (.cells #[Zs ⟨#[]⟩,Z O 0,Z O 0,Z O 0,Z O 0,Z O 0,Z O 0,Zl none 0 0] 49)).setCells w1.heap.size 0 [Zs code,Z O dl,Z O dh,Z O wl,Z O wh,Z O pil,Z O boi,Zl fa fn fc])=W3 at DK3 ⊢
 obtain⟨gD,hgD⟩:∃ g,g=w.heap.size:=⟨_,rfl⟩
 obtain⟨gS,hgS2⟩:∃ g,g=w1.heap.size:=⟨_,rfl⟩
 rw [← hgD,← hgS2]at DK3 ⊢
 have HZ:=Zh (And.intro hgD hgS2)
 clear hgD hgS2 hgS hz1
 simp only [Act.put]
 have q0:=Zg (DK3.out.at 0 1 (v:=Z O day) rfl rfl)
 have q1:=Zg (DK3.out.at 1 5 (v:=Z O pil) rfl rfl)
 have q2:=Zg (show W3.cell? ⟨B,0,none⟩=some (Z O bef)from DK3.out.own 0 rfl)
 refine region_split_below 10 (by kernel_rfl) (by kernel_rfl) (by kernel_rfl) ?_
 simp only [List.take_succ_cons,List.take_zero,List.drop_succ_cons,List.drop_zero]
 repeat(go_big_quiet_step (fail))
 refine wpQuiet_nil ?_
 intro v0 hw'
 have hb8:Below W3.heap.size W3 v0:=by obtain⟨⟨dq,osq⟩,hw''⟩:=hw';rw [hw''];exact Zk W3 dq osq
 clear hw' q0 q1 q2
 have DK4:=Zh (p:=Desk w v0 (fun _=>False) C B bef aft l c made N kv tv m [(gD,55,[Z O kind,Z O day,Zs code,Zs other,Z O al,Z O ah,Z O bl,Z O bh]),(gS,49,[Zs code,Z O dl,Z O dh,Z O wl,Z O wh,Z O pil,Z O boi,Zl fa fn fc])]) (DK3.out.below hb8)
 clear DK3
 clear hb8
 go_upto_region 3 with(go_at_call 98;refine(need_true _ _).mono ?_;rintro e w2 ⟨rfl,rfl⟩)
 have q0:=Zg (DK4.out.at 1 1 (v:=Z O dl) rfl rfl)
 have q1:=Zg (DK4.out.at 1 2 (v:=Z O dh) rfl rfl)
 have q2:=Zg (DK4.out.at 0 6 (v:=Z O bl) rfl rfl)
 have q3:=Zg (DK4.out.at 0 7 (v:=Z O bh) rfl rfl)
 have k0:∀ d os,Calls Try.prog 96 #[.agg #[Z O dl,Z O dh],.agg #[Z O bl,Z O bh]] (Go.Sort.grow (redrawn v0 d) os) fun e w''=>e=.returned (.agg #[Z O p2.lo,Z O p2.hi])∧∃ p:Regrown,w''=Go.Sort.grow (redrawn v0 p.d) p.os:=regrown_calls (fun w=>by exact part_up HUD.out hV HUB.out Ep2.out w)
 refine region_seq_below 5 ?_
 simp only [List.take_succ_cons,List.take_zero,List.drop_succ_cons,List.drop_zero]
 repeat(go_big_quiet_step (first|(with_reducible exact k0 _ _)))
 refine wpQuiet_nil ?_
 intro v1 hw'
 have hb8:Below v0.heap.size v0 v1:=by obtain⟨⟨dq,osq⟩,hw''⟩:=hw';rw [hw''];exact Zk v0 dq osq
 clear hw' q0 q1 q2 q3 k0
 have DK5:=Zh (p:=Desk w v1 (fun _=>False) C B bef aft l c made N kv tv m [(gD,55,[Z O kind,Z O day,Zs code,Zs other,Z O al,Z O ah,Z O bl,Z O bh]),(gS,49,[Zs code,Z O dl,Z O dh,Z O wl,Z O wh,Z O pil,Z O boi,Zl fa fn fc])]) (DK4.out.below hb8)
 clear DK4
 clear hb8
 have hz:=DK5.out.beside.size
 have DA:=Zh (DK5.out.alloc 32 [Z O 0,Z O 0] rfl)
 go_upto_region 4 with((with_reducible refine at_store 32 (.tmp 5) (.tmp 25) ?_);go_must (refine Zw rfl 32 (.tmp 5) (.tmp 25) rfl v1.heap.size 0 #[Z O p2.lo,Z O p2.hi] rfl rfl ((DA.out.loc 2 _ _ _ rfl).1.there (o:=0) (n:=2) (Zn rfl)) size_bounds (by simp [Value.oneCell']) ?_))
 have DK6:=Zh (p:=Desk w ((v1.alloc (.cells #[Z O 0,Z O 0] 32)).setCells v1.heap.size 0 [Z O p2.lo,Z O p2.hi]) (fun _=>False) C B bef aft l c made N kv tv m [(gD,55,[Z O kind,Z O day,Zs code,Zs other,Z O al,Z O ah,Z O bl,Z O bh]),(gS,49,[Zs code,Z O dl,Z O dh,Z O wl,Z O wh,Z O pil,Z O boi,Zl fa fn fc]),(v1.heap.size,32,[Z O p2.lo,Z O p2.hi])]) (DA.out.put 2 0 _ rfl)
 clear  DA DK5 hz
 generalize((v1.alloc (.cells #[Z O 0,Z O 0] 32)).setCells v1.heap.size 0 [Z O p2.lo,Z O p2.hi])=v2 at DK6 ⊢
 obtain⟨gX,hgX⟩:∃ g,g=v1.heap.size:=⟨_,rfl⟩
 rw [← hgX]at DK6 ⊢
 clear hgX
 simp only [Act.put]
 have q0:=Zg (show v2.cell? ⟨B,15,none⟩=some (Z O c.soaked.lo)from DK6.out.own 15 rfl)
 have q1:=Zg (show v2.cell? ⟨B,16,none⟩=some (Z O c.soaked.hi)from DK6.out.own 16 rfl)
 have q2:=Zg (DK6.out.at 2 0 (v:=Z O p2.lo) rfl rfl)
 have q3:=Zg (DK6.out.at 2 1 (v:=Z O p2.hi) rfl rfl)
 have k0:∀ d os,Calls Try.prog 95 #[.agg #[Z O c.soaked.lo,Z O c.soaked.hi],.agg #[Z O p2.lo,Z O p2.hi]] (Go.Sort.grow (redrawn v2 d) os) fun e w''=>e=.returned (.agg #[Z O s6.lo,Z O s6.hi])∧∃ p:Regrown,w''=Go.Sort.grow (redrawn v2 p.d) p.os:=regrown_calls (fun w=>by exact sum_up HU6.out HV8.out HUP2.out HV9.out Es6.out w)
 refine region_split_below 11 (by kernel_rfl) (by kernel_rfl) (by kernel_rfl) ?_
 simp only [List.take_succ_cons,List.take_zero,List.drop_succ_cons,List.drop_zero]
 repeat(go_big_quiet_step (first|(with_reducible exact k0 _ _)))
 refine wpQuiet_nil ?_
 intro v3 hw'
 have hb8:Below v2.heap.size v2 v3:=by obtain⟨⟨dq,osq⟩,hw''⟩:=hw';rw [hw''];exact Zk v2 dq osq
 clear hw' q0 q1 q2 q3 k0
 have DK7:=Zh (p:=Desk w v3 (fun _=>False) C B bef aft l c made N kv tv m [(gD,55,[Z O kind,Z O day,Zs code,Zs other,Z O al,Z O ah,Z O bl,Z O bh]),(gS,49,[Zs code,Z O dl,Z O dh,Z O wl,Z O wh,Z O pil,Z O boi,Zl fa fn fc]),(gX,32,[Z O p2.lo,Z O p2.hi])]) (DK6.out.below hb8)
 clear DK6
 clear hb8
 have HE:=Zh (p:=v3.there B 15 2) (DK7.out.book.blk.there (o:=15) (n:=2) (Zn rfl))
 refine Zw rfl 32 (.tmp 36) (.tmp 33) rfl B 15 #[Z O s6.lo,Z O s6.hi] rfl rfl HE.out size_bounds (by simp [Value.oneCell']) ?_
 change wpList _ _ _ _ _ (v3.setCells B 15 [Z O s6.lo,Z O s6.hi])
 clear HE
 have DK8:=Zh (show Desk w (v3.setCells B 15 [Z O s6.lo,Z O s6.hi]) C C B bef aft l { c with soaked:=s6 } made N kv tv m [(gD,55,[Z O kind,Z O day,Zs code,Zs other,Z O al,Z O ah,Z O bl,Z O bh]),(gS,49,[Zs code,Z O dl,Z O dh,Z O wl,Z O wh,Z O pil,Z O boi,Zl fa fn fc]),(gX,32,[Z O p2.lo,Z O p2.hi])]from DK7.out.setOwn [Z O bef,Z O aft,kv,tv,.map (some m),Z O c.vapour.lo,Z O c.vapour.hi,Z O c.broth.lo,Z O c.broth.hi,Z O c.dust.lo,Z O c.dust.hi,Z O c.soldDry.lo,Z O c.soldDry.hi,Z O c.soldWater.lo,Z O c.soldWater.hi] [Z O c.soaked.lo,Z O c.soaked.hi] [Z O made] [Z O s6.lo,Z O s6.hi] rfl rfl rfl (fun _ f=>f.elim))
 clear DK7
 generalize World.setCells _ _ _ _=v4 at DK8 ⊢
 simp only [Act.put]
 go_upto_region 5 with fail
 have q0:=Zg (show v4.cell? ⟨B,7,none⟩=some (Z O c.broth.lo)from DK8.out.own 7 rfl)
 have q1:=Zg (show v4.cell? ⟨B,8,none⟩=some (Z O c.broth.hi)from DK8.out.own 8 rfl)
 have q2:=Zg (DK8.out.at 1 1 (v:=Z O dl) rfl rfl)
 have q3:=Zg (DK8.out.at 1 2 (v:=Z O dh) rfl rfl)
 have q4:=Zg (DK8.out.at 0 4 (v:=Z O al) rfl rfl)
 have q5:=Zg (DK8.out.at 0 5 (v:=Z O ah) rfl rfl)
 have k0:∀ d os,Calls Try.prog 96 #[.agg #[Z O dl,Z O dh],.agg #[Z O al,Z O ah]] (Go.Sort.grow (redrawn v4 d) os) fun e w''=>e=.returned (.agg #[Z O p1.lo,Z O p1.hi])∧∃ p:Regrown,w''=Go.Sort.grow (redrawn v4 p.d) p.os:=regrown_calls (fun w=>by exact part_up HUD.out hV HUA.out Ep1.out w)
 have k1:∀ d os,Calls Try.prog 95 #[.agg #[Z O c.broth.lo,Z O c.broth.hi],.agg #[Z O p1.lo,Z O p1.hi]] (Go.Sort.grow (redrawn v4 d) os) fun e w''=>e=.returned (.agg #[Z O s2.lo,Z O s2.hi])∧∃ p:Regrown,w''=Go.Sort.grow (redrawn v4 p.d) p.os:=regrown_calls (fun w=>by exact sum_up HU2.out HV8.out HUP1.out HV8.out Es2.out w)
 refine region_split_below 15 (by kernel_rfl) (by kernel_rfl) (by kernel_rfl) ?_
 simp only [List.take_succ_cons,List.take_zero,List.drop_succ_cons,List.drop_zero]
 repeat(go_big_quiet_step (first|(with_reducible exact k0 _ _)|(with_reducible exact k1 _ _)))
 refine wpQuiet_nil ?_
 intro v5 hw'
 have hb8:Below v4.heap.size v4 v5:=by obtain⟨⟨dq,osq⟩,hw''⟩:=hw';rw [hw''];exact Zk v4 dq osq
 clear hw' q0 q1 q2 q3 q4 q5 k0 k1
 have DK9:=Zh (show Desk w v5 C C B bef aft l { c with soaked:=s6 } made N kv tv m [(gD,55,[Z O kind,Z O day,Zs code,Zs other,Z O al,Z O ah,Z O bl,Z O bh]),(gS,49,[Zs code,Z O dl,Z O dh,Z O wl,Z O wh,Z O pil,Z O boi,Zl fa fn fc]),(gX,32,[Z O p2.lo,Z O p2.hi])]from DK8.out.below hb8)
 clear DK8
 clear hb8
 have HE:=Zh (p:=v5.there B 7 2) (DK9.out.book.blk.there (o:=7) (n:=2) (Zn rfl))
 refine Zw rfl 32 (.tmp 51) (.tmp 48) rfl B 7 #[Z O s2.lo,Z O s2.hi] rfl rfl HE.out size_bounds (by simp [Value.oneCell']) ?_
 change wpList _ _ _ _ _ (v5.setCells B 7 [Z O s2.lo,Z O s2.hi])
 clear HE
 have DK10:=Zh (show Desk w (v5.setCells B 7 [Z O s2.lo,Z O s2.hi]) C C B bef aft l { { c with soaked:=s6 } with broth:=s2 } made N kv tv m [(gD,55,[Z O kind,Z O day,Zs code,Zs other,Z O al,Z O ah,Z O bl,Z O bh]),(gS,49,[Zs code,Z O dl,Z O dh,Z O wl,Z O wh,Z O pil,Z O boi,Zl fa fn fc]),(gX,32,[Z O p2.lo,Z O p2.hi])]from DK9.out.setOwn [Z O bef,Z O aft,kv,tv,.map (some m),Z O c.vapour.lo,Z O c.vapour.hi] [Z O c.broth.lo,Z O c.broth.hi] [Z O c.dust.lo,Z O c.dust.hi,Z O c.soldDry.lo,Z O c.soldDry.hi,Z O c.soldWater.lo,Z O c.soldWater.hi,Z O s6.lo,Z O s6.hi,Z O made] [Z O s2.lo,Z O s2.hi] rfl rfl rfl (fun _ h=>h))
 clear DK9
 generalize World.setCells _ _ _ _=v6 at DK10 ⊢
 simp only [Act.put]
 go_upto_region 6 with fail
 have q0:=Zg (DK10.out.at 1 3 (v:=Z O wl) rfl rfl)
 have q1:=Zg (DK10.out.at 1 4 (v:=Z O wh) rfl rfl)
 have q2:=Zg (DK10.out.at 2 0 (v:=Z O p2.lo) rfl rfl)
 have q3:=Zg (DK10.out.at 2 1 (v:=Z O p2.hi) rfl rfl)
 have k0:∀ d os,Calls Try.prog 95 #[.agg #[Z O wl,Z O wh],.agg #[Z O p2.lo,Z O p2.hi]] (Go.Sort.grow (redrawn v6 d) os) fun e w''=>e=.returned (.agg #[Z O w2b.lo,Z O w2b.hi])∧∃ p:Regrown,w''=Go.Sort.grow (redrawn v6 p.d) p.os:=regrown_calls (fun w=>by exact sum_up HUW.out HV8.out HUP2.out HV9.out Ew2b.out w)
 refine region_seq_below 5 ?_
 simp only [List.take_succ_cons,List.take_zero,List.drop_succ_cons,List.drop_zero]
 repeat(go_big_quiet_step (first|(with_reducible exact k0 _ _)))
 refine wpQuiet_nil ?_
 intro v7 hw'
 have hb8:Below v6.heap.size v6 v7:=by obtain⟨⟨dq,osq⟩,hw''⟩:=hw';rw [hw''];exact Zk v6 dq osq
 clear hw' q0 q1 q2 q3 k0
 have DK11:=Zh (show Desk w v7 C C B bef aft l { { c with soaked:=s6 } with broth:=s2 } made N kv tv m [(gD,55,[Z O kind,Z O day,Zs code,Zs other,Z O al,Z O ah,Z O bl,Z O bh]),(gS,49,[Zs code,Z O dl,Z O dh,Z O wl,Z O wh,Z O pil,Z O boi,Zl fa fn fc]),(gX,32,[Z O p2.lo,Z O p2.hi])]from DK10.out.below hb8)
 clear DK10
 clear hb8
 have HE:=Zh (p:=v7.there gS 3 2) ((DK11.out.loc 1 _ _ _ rfl).1.there (o:=3) (n:=2) (Zn rfl))
 refine Zw rfl 32 (.tmp 56) (.tmp 55) rfl gS 3 #[Z O w2b.lo,Z O w2b.hi] rfl rfl HE.out size_bounds (by simp [Value.oneCell']) ?_
 change wpList _ _ _ _ _ (v7.setCells gS 3 [Z O w2b.lo,Z O w2b.hi])
 clear HE
 have DK12:=Zh (show Desk w (v7.setCells gS 3 [Z O w2b.lo,Z O w2b.hi]) C C B bef aft l { { c with soaked:=s6 } with broth:=s2 } made N kv tv m [(gD,55,[Z O kind,Z O day,Zs code,Zs other,Z O al,Z O ah,Z O bl,Z O bh]),(gS,49,[Zs code,Z O dl,Z O dh,Z O w2b.lo,Z O w2b.hi,Z O pil,Z O boi,Zl fa fn fc]),(gX,32,[Z O p2.lo,Z O p2.hi])]from DK11.out.setLoc 1 [Zs code,Z O dl,Z O dh] [Z O wl,Z O wh] [Z O pil,Z O boi,Zl fa fn fc] [Z O w2b.lo,Z O w2b.hi] rfl rfl (by decide))
 clear DK11
 generalize World.setCells _ _ _ _=v8 at DK12 ⊢
 simp only [Act.put]
 go_upto_region 7 with fail
 have q0:=Zg (DK12.out.at 1 1 (v:=Z O dl) rfl rfl)
 have q1:=Zg (DK12.out.at 1 2 (v:=Z O dh) rfl rfl)
 have q2:=Zg (DK12.out.at 0 4 (v:=Z O al) rfl rfl)
 have q3:=Zg (DK12.out.at 0 5 (v:=Z O ah) rfl rfl)
 have k0:∀ d os,Calls Try.prog 97 #[.agg #[Z O dl,Z O dh],.agg #[Z O al,Z O ah]] (Go.Sort.grow (redrawn v8 d) os) fun e w''=>e=.returned (.agg #[Z O r1.lo,Z O r1.hi])∧∃ p:Regrown,w''=Go.Sort.grow (redrawn v8 p.d) p.os:=regrown_calls (fun w=>by exact left_up HUD.out hV HUA.out Er1.out w)
 refine region_seq_below 6 ?_
 simp only [List.take_succ_cons,List.take_zero,List.drop_succ_cons,List.drop_zero]
 repeat(go_big_quiet_step (first|(with_reducible exact k0 _ _)))
 refine wpQuiet_nil ?_
 intro v9 hw'
 have hb8:Below v8.heap.size v8 v9:=by obtain⟨⟨dq,osq⟩,hw''⟩:=hw';rw [hw''];exact Zk v8 dq osq
 clear hw' q0 q1 q2 q3 k0
 have DK13:=Zh (show Desk w v9 C C B bef aft l { { c with soaked:=s6 } with broth:=s2 } made N kv tv m [(gD,55,[Z O kind,Z O day,Zs code,Zs other,Z O al,Z O ah,Z O bl,Z O bh]),(gS,49,[Zs code,Z O dl,Z O dh,Z O w2b.lo,Z O w2b.hi,Z O pil,Z O boi,Zl fa fn fc]),(gX,32,[Z O p2.lo,Z O p2.hi])]from DK12.out.below hb8)
 clear DK12
 clear hb8
 have HE:=Zh (p:=v9.there gS 1 2) ((DK13.out.loc 1 _ _ _ rfl).1.there (o:=1) (n:=2) (Zn rfl))
 refine Zw rfl 32 (.tmp 62) (.tmp 61) rfl gS 1 #[Z O r1.lo,Z O r1.hi] rfl rfl HE.out size_bounds (by simp [Value.oneCell']) ?_
 change wpList _ _ _ _ _ (v9.setCells gS 1 [Z O r1.lo,Z O r1.hi])
 clear HE
 have DK14:=Zh (show Desk w (v9.setCells gS 1 [Z O r1.lo,Z O r1.hi]) C C B bef aft l { { c with soaked:=s6 } with broth:=s2 } made N kv tv m [(gD,55,[Z O kind,Z O day,Zs code,Zs other,Z O al,Z O ah,Z O bl,Z O bh]),(gS,49,[Zs code,Z O r1.lo,Z O r1.hi,Z O w2b.lo,Z O w2b.hi,Z O pil,Z O boi,Zl fa fn fc]),(gX,32,[Z O p2.lo,Z O p2.hi])]from DK13.out.setLoc 1 [Zs code] [Z O dl,Z O dh] [Z O w2b.lo,Z O w2b.hi,Z O pil,Z O boi,Zl fa fn fc] [Z O r1.lo,Z O r1.hi] rfl rfl (by decide))
 clear DK13
 generalize World.setCells _ _ _ _=v10 at DK14 ⊢
 simp only [Act.put]
 go_upto_region 8 with fail
 have q0:=Zg (DK14.out.at 0 1 (v:=Z O day) rfl rfl)
 refine region_seq_below 3 ?_
 simp only [List.take_succ_cons,List.take_zero,List.drop_succ_cons,List.drop_zero]
 repeat(go_big_quiet_step (fail))
 refine wpQuiet_nil ?_
 intro v11 hw'
 have hb8:Below v10.heap.size v10 v11:=by obtain⟨⟨dq,osq⟩,hw''⟩:=hw';rw [hw''];exact Zk v10 dq osq
 clear hw' q0
 have DK15:=Zh (show Desk w v11 C C B bef aft l { { c with soaked:=s6 } with broth:=s2 } made N kv tv m [(gD,55,[Z O kind,Z O day,Zs code,Zs other,Z O al,Z O ah,Z O bl,Z O bh]),(gS,49,[Zs code,Z O r1.lo,Z O r1.hi,Z O w2b.lo,Z O w2b.hi,Z O pil,Z O boi,Zl fa fn fc]),(gX,32,[Z O p2.lo,Z O p2.hi])]from DK14.out.below hb8)
 clear DK14
 clear hb8
 have hc9:=DK15.out.at 1 6 (v:=Z O boi) rfl rfl
 have hf9:=(DK15.out.loc 1 _ _ _ rfl).1.frozen 6
 go_upto_region 9 with fail
 clear hc9 hf9
 have DK16:=Zh (show Desk w (v11.setCell ⟨gS,6,none⟩ (Z O day)) C C B bef aft l { { c with soaked:=s6 } with broth:=s2 } made N kv tv m [(gD,55,[Z O kind,Z O day,Zs code,Zs other,Z O al,Z O ah,Z O bl,Z O bh]),(gS,49,[Zs code,Z O r1.lo,Z O r1.hi,Z O w2b.lo,Z O w2b.hi,Z O pil,Z O day,Zl fa fn fc]),(gX,32,[Z O p2.lo,Z O p2.hi])]from DK15.out.setLoc1 1 [Zs code,Z O r1.lo,Z O r1.hi,Z O w2b.lo,Z O w2b.hi,Z O pil] [Zl fa fn fc] (Z O boi) (Z O day) 6 rfl rfl (by decide))
 clear DK15
 generalize World.setCell _ _ _=v12 at DK16 ⊢
 have s0:=DK16.out.at 1 0 (v:=Zs code) rfl rfl
 have s1:=DK16.out.at 1 1 (v:=Z O r1.lo) rfl rfl
 have s2:=DK16.out.at 1 2 (v:=Z O r1.hi) rfl rfl
 have s3:=DK16.out.at 1 3 (v:=Z O w2b.lo) rfl rfl
 have s4:=DK16.out.at 1 4 (v:=Z O w2b.hi) rfl rfl
 have s5:=DK16.out.at 1 5 (v:=Z O pil) rfl rfl
 have s6:=DK16.out.at 1 6 (v:=Z O day) rfl rfl
 have s7:=DK16.out.at 1 7 (v:=Zl fa fn fc) rfl rfl
 go_wp2_with (go_at_call 93;refine(keep_old DK16.out.book ⟨code,r1,w2b,pil,day,src⟩ fa fn fc HP.out HK.out rfl (row_same (DK16.out.book.froms _ (List.mem_of_getElem? HP.out)) (fun _ _=>rfl)) (DK16.out.book.fromsLen _ (List.mem_of_getElem? HP.out))).mono ?_;rintro e w9 ⟨rfl,hb9,hk9⟩;have HB9:=Zh (DK16.out.beside.trans hb9 (fun k hk=>.inl hk));have HK9:=Zh hk9;clear hb9 hk9)
 go_end0
 have zp2:=Ep2.out;have zs6:=Es6.out;have zp1:=Ep1.out;have zs2:=Es2.out;have zw2b:=Ew2b.out;have zr1:=Er1.out
 subst zr1 zw2b zs2 zp1 zs6 zp2
 exact⟨rfl,HB9.out,HK9.out⟩
end Go.Proofs.Ytgekekhbhkgekaa
