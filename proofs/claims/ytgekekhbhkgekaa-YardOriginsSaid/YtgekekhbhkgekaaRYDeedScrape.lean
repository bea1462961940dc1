/- A deed: scrape. -/
import Derived.Test.YtgekekhbhkgekaaRYClone
namespace Go.Proofs.Ytgekekhbhkgekaa
open Go Go.RowKit Yd
open _root_.Go.Value renaming int → Z, string → Zs, slice → Zl
open _root_.Go.IntKind renaming i64 → O
open _root_.Go.Lib renaming hid → Zh
open _root_.Nat renaming le_of_ble_eq_true → Zn
open _root_.Go renaming wpList_store_mid → Zw, cell_regrown → Zg, below_regrown → Zk
set_option maxRecDepth 100000
set_option maxHeartbeats 16000000
theorem rest_no {w:World}{C:Nat→Prop}{B:Nat}{bef aft:Int}{l:List SRow}{c:Yd.Acc}{made:Int}{N:Nat}{kv tv:Value}{m:Nat}(h:Book w C B bef aft l c made N kv tv m)
  (kind day:Int) (code other:Code) (al ah bl bh:Int) (hs:code.size≤maxLen) (hC:∀ k,C k→k<w.heap.size) (hn:ixOf l code=none) :
  Calls Try.prog 85 #[.pointer (some ⟨B,0,none⟩),.agg #[Z O kind,Z O day,Zs code,Zs other,Z O al,Z O ah,Z O bl,Z O bh]] w fun e w'=>e=.panicked (faulty 1)∧Below w.heap.size w w':=by
 have DK1:=Zh (boxed_deed h hC [Z O kind,Z O day,Zs code,Zs other,Z O al,Z O ah,Z O bl,Z O bh])
 have HS:=Zh hs;have HN:=Zh hn
 clear h hs hn hC
 go_enter Try.func85,Try.ntmps85
 go_wp2_with (go_at_call 94;refine(stack_no DK1.out.book code HS.out HN.out).mono ?_;rintro e w1 ⟨rfl,hb1⟩;have DK2:=Zh (DK1.out.below hb1);clear hb1)
 exact⟨rfl,rfl,DK2.out.quiet⟩
theorem scrape_no {w:World}{C:Nat→Prop}{B:Nat}{bef aft:Int}{l:List SRow}{c:Yd.Acc}{made:Int}{N:Nat}{kv tv:Value}{m:Nat}(h:Book w C B bef aft l c made N kv tv m)
  (kind day:Int) (code other:Code) (al ah bl bh:Int) (hs:code.size≤maxLen) (hC:∀ k,C k→k<w.heap.size) (hn:ixOf l code=none) :
  Calls Try.prog 87 #[.pointer (some ⟨B,0,none⟩),.agg #[Z O kind,Z O day,Zs code,Zs other,Z O al,Z O ah,Z O bl,Z O bh]] w fun e w'=>e=.panicked (faulty 1)∧Below w.heap.size w w':=by
 have DK1:=Zh (boxed_deed h hC [Z O kind,Z O day,Zs code,Zs other,Z O al,Z O ah,Z O bl,Z O bh])
 have HS:=Zh hs;have HN:=Zh hn
 clear h hs hn hC
 go_enter Try.func87,Try.ntmps87
 go_wp2_with (go_at_call 94;refine(stack_no DK1.out.book code HS.out HN.out).mono ?_;rintro e w1 ⟨rfl,hb1⟩;have DK2:=Zh (DK1.out.below hb1);clear hb1)
 exact⟨rfl,rfl,DK2.out.quiet⟩
theorem scrape_soon {w:World}{C:Nat→Prop}{B:Nat}{bef aft:Int}{l:List SRow}{c:Yd.Acc}{made:Int}{N:Nat}{kv tv:Value}{m:Nat}(h:Book w C B bef aft l c made N kv tv m)
  (kind day:Int) (code other:Code) (al ah bl bh:Int) (hs:code.size≤maxLen) (hC:∀ k,C k→k<w.heap.size) (dl dh wl wh pil boi:Int) (src:List Int) (fa:Option Addr) (fn fc:Nat) {k:Nat} (hk:ixOf l code=some k) (hp:l[k]? = some (⟨code,⟨dl,dh⟩,⟨wl,wh⟩,pil,boi,src⟩,Zl fa fn fc)) (hd:0≤day∧day≤2000) (hb : -1≤boi∧boi≤2000) (hr:restedB aft (⟨code,⟨dl,dh⟩,⟨wl,wh⟩,pil,boi,src⟩:Stk Code) day=false) :
  Calls Try.prog 87 #[.pointer (some ⟨B,0,none⟩),.agg #[Z O kind,Z O day,Zs code,Zs other,Z O al,Z O ah,Z O bl,Z O bh]] w fun e w'=>e=.panicked (faulty 3)∧Below w.heap.size w w':=by
 have HDAY:=Zh (show 0≤day∧day≤1000000 by omega)
 have HBOI:=Zh (show -1≤boi∧boi≤1000000 by omega)
 have HR:=Zh hr
 clear hd hb hr
 have DK1:=Zh (boxed_deed h hC [Z O kind,Z O day,Zs code,Zs other,Z O al,Z O ah,Z O bl,Z O bh])
 have hz1:(w.alloc (.cells #[Z O kind,Z O day,Zs code,Zs other,Z O al,Z O ah,Z O bl,Z O bh] 55)).heap.size=w.heap.size+1:=World.size_alloc _ _
 have HS:=Zh hs;have HK:=Zh hk;have HP:=Zh hp;have HC:=Zh hC
 clear h hs hk hp hC
 go_enter Try.func87,Try.ntmps87
 go_upto_region 2 with(first
  | (go_at_call 94;refine(stack_yes DK1.out.book code HS.out HK.out HP.out).mono ?_;rintro e w1 ⟨rfl,hb1⟩;have DK2:=Zh ((DK1.out.below hb1).alloc 49 [Zs ⟨#[]⟩,Z O 0,Z O 0,Z O 0,Z O 0,Z O 0,Z O 0,Zl none 0 0] rfl);clear hb1)
  | ((with_reducible refine at_store 49 (.tmp 4) (.tmp 8) ?_);go_must (refine Zw rfl 49 (.tmp 4) (.tmp 8) rfl w1.heap.size 0 #[Zs code,Z O dl,Z O dh,Z O wl,Z O wh,Z O pil,Z O boi,Zl fa fn fc] rfl rfl ((DK2.out.loc 1 _ _ _ rfl).1.there (o:=0) (n:=8) (Zn rfl)) size_stack (by simp [Value.oneCell']) ?_)))
 have hgS:=(DK2.out.far 1 rfl).1
 have DK3:=Zh (p:=Desk w ((w1.alloc (.cells #[Zs ⟨#[]⟩,Z O 0,Z O 0,Z O 0,Z O 0,Z O 0,Z O 0,Zl none 0 0] 49)).setCells w1.heap.size 0 [Zs code,Z O dl,Z O dh,Z O wl,Z O wh,Z O pil,Z O boi,Zl fa fn fc]) (fun _=>False) C B bef aft l c made N kv tv m [(w.heap.size,55,[Z O kind,Z O day,Zs code,Zs other,Z O al,Z O ah,Z O bl,Z O bh]),(w1.heap.size,49,[Zs code,Z O dl,Z O dh,Z O wl,Z O wh,Z O pil,Z O boi,Zl fa fn fc])]) (DK2.out.put 1 0 _ rfl)
 clear DK2
 generalize((w1.alloc (.cells #[Zs ⟨#[]⟩,Z O 0,Z O 0,Z O 0,Z O 0,Z O 0,Z O 0,Zl none 0 0] 49)).setCells w1.heap.size 0 [Zs code,Z O dl,Z O dh,Z O wl,Z O wh,Z O pil,Z O boi,Zl fa fn fc])=W3 at DK3 ⊢
 obtain⟨gD,hgD⟩:∃ g,g=w.heap.size:=⟨_,rfl⟩
 obtain⟨gS,hgS2⟩:∃ g,g=w1.heap.size:=⟨_,rfl⟩
 rw [← hgD,← hgS2]at DK3 ⊢
 have HZ:=Zh (And.intro hgD hgS2)
 clear hgD hgS2 hgS hz1
 simp only [Act.put]
 have s0:=DK3.out.at 1 0 (v:=Zs code) rfl rfl
 have s1:=DK3.out.at 1 1 (v:=Z O dl) rfl rfl
 have s2:=DK3.out.at 1 2 (v:=Z O dh) rfl rfl
 have s3:=DK3.out.at 1 3 (v:=Z O wl) rfl rfl
 have s4:=DK3.out.at 1 4 (v:=Z O wh) rfl rfl
 have s5:=DK3.out.at 1 5 (v:=Z O pil) rfl rfl
 have s6:=DK3.out.at 1 6 (v:=Z O boi) rfl rfl
 have s7:=DK3.out.at 1 7 (v:=Zl fa fn fc) rfl rfl
 have t1:=DK3.out.at 0 1 (v:=Z O day) rfl rfl
 go_upto_region 3 with(go_at_call 99;refine(rested_no DK3.out.book ⟨code,⟨dl,dh⟩,⟨wl,wh⟩,pil,boi,src⟩ fa fn fc day HDAY.out HBOI.out HR.out).mono ?_;rintro e w4 ⟨rfl,hb4⟩;have DK4:=Zh (DK3.out.below hb4);clear hb4)
 exact⟨rfl,rfl,DK4.out.quiet⟩
theorem scrape_bark {w:World}{C:Nat→Prop}{B:Nat}{bef aft:Int}{l:List SRow}{c:Yd.Acc}{made:Int}{N:Nat}{kv tv:Value}{m:Nat}(h:Book w C B bef aft l c made N kv tv m)
  (kind day:Int) (code other:Code) (al ah bl bh:Int) (hs:code.size≤maxLen) (hC:∀ k,C k→k<w.heap.size) (dl dh wl wh pil boi:Int) (src:List Int) (fa:Option Addr) (fn fc:Nat) {k:Nat} (hk:ixOf l code=some k) (hp:l[k]? = some (⟨code,⟨dl,dh⟩,⟨wl,wh⟩,pil,boi,src⟩,Zl fa fn fc)) (hd:0≤day∧day≤2000) (hb : -1≤boi∧boi≤2000) (hr:restedB aft (⟨code,⟨dl,dh⟩,⟨wl,wh⟩,pil,boi,src⟩:Stk Code) day=true) (hbark:¬ al≤dh) :
  Calls Try.prog 87 #[.pointer (some ⟨B,0,none⟩),.agg #[Z O kind,Z O day,Zs code,Zs other,Z O al,Z O ah,Z O bl,Z O bh]] w fun e w'=>e=.panicked (faulty 4)∧Below w.heap.size w w':=by
 have d3:decide (al≤dh)=false:=by simpa using hbark
 clear hbark
 have HDAY:=Zh (show 0≤day∧day≤1000000 by omega)
 have HBOI:=Zh (show -1≤boi∧boi≤1000000 by omega)
 have HR:=Zh hr
 clear hd hb hr
 have DK1:=Zh (boxed_deed h hC [Z O kind,Z O day,Zs code,Zs other,Z O al,Z O ah,Z O bl,Z O bh])
 have hz1:(w.alloc (.cells #[Z O kind,Z O day,Zs code,Zs other,Z O al,Z O ah,Z O bl,Z O bh] 55)).heap.size=w.heap.size+1:=World.size_alloc _ _
 have HS:=Zh hs;have HK:=Zh hk;have HP:=Zh hp;have HC:=Zh hC
 clear h hs hk hp hC
 go_enter Try.func87,Try.ntmps87
 go_upto_region 2 with(first
  | (go_at_call 94;refine(stack_yes DK1.out.book code HS.out HK.out HP.out).mono ?_;rintro e w1 ⟨rfl,hb1⟩;have DK2:=Zh ((DK1.out.below hb1).alloc 49 [Zs ⟨#[]⟩,Z O 0,Z O 0,Z O 0,Z O 0,Z O 0,Z O 0,Zl none 0 0] rfl);clear hb1)
  | ((with_reducible refine at_store 49 (.tmp 4) (.tmp 8) ?_);go_must (refine Zw rfl 49 (.tmp 4) (.tmp 8) rfl w1.heap.size 0 #[Zs code,Z O dl,Z O dh,Z O wl,Z O wh,Z O pil,Z O boi,Zl fa fn fc] rfl rfl ((DK2.out.loc 1 _ _ _ rfl).1.there (o:=0) (n:=8) (Zn rfl)) size_stack (by simp [Value.oneCell']) ?_)))
 have hgS:=(DK2.out.far 1 rfl).1
 have DK3:=Zh (p:=Desk w ((w1.alloc (.cells #[Zs ⟨#[]⟩,Z O 0,Z O 0,Z O 0,Z O 0,Z O 0,Z O 0,Zl none 0 0] 49)).setCells w1.heap.size 0 [Zs code,Z O dl,Z O dh,Z O wl,Z O wh,Z O pil,Z O boi,Zl fa fn fc]) (fun _=>False) C B bef aft l c made N kv tv m [(w.heap.size,55,[Z O kind,Z O day,Zs code,Zs other,Z O al,Z O ah,Z O bl,Z O bh]),(w1.heap.size,49,[Zs code,Z O dl,Z O dh,Z O wl,Z O wh,Z O pil,Z O boi,Zl fa fn fc])]) (DK2.out.put 1 0 _ rfl)
 clear DK2
 generalize((w1.alloc (.cells #[Zs ⟨#[]⟩,Z O 0,Z O 0,Z O 0,Z O 0,Z O 0,Z O 0,Zl none 0 0] 49)).setCells w1.heap.size 0 [Zs code,Z O dl,Z O dh,Z O wl,Z O wh,Z O pil,Z O boi,Zl fa fn fc])=W3 at DK3 ⊢
 obtain⟨gD,hgD⟩:∃ g,g=w.heap.size:=⟨_,rfl⟩
 obtain⟨gS,hgS2⟩:∃ g,g=w1.heap.size:=⟨_,rfl⟩
 rw [← hgD,← hgS2]at DK3 ⊢
 have HZ:=Zh (And.intro hgD hgS2)
 clear hgD hgS2 hgS hz1
 simp only [Act.put]
 have s0:=DK3.out.at 1 0 (v:=Zs code) rfl rfl
 have s1:=DK3.out.at 1 1 (v:=Z O dl) rfl rfl
 have s2:=DK3.out.at 1 2 (v:=Z O dh) rfl rfl
 have s3:=DK3.out.at 1 3 (v:=Z O wl) rfl rfl
 have s4:=DK3.out.at 1 4 (v:=Z O wh) rfl rfl
 have s5:=DK3.out.at 1 5 (v:=Z O pil) rfl rfl
 have s6:=DK3.out.at 1 6 (v:=Z O boi) rfl rfl
 have s7:=DK3.out.at 1 7 (v:=Zl fa fn fc) rfl rfl
 have t1:=DK3.out.at 0 1 (v:=Z O day) rfl rfl
 go_upto_region 3 with(go_at_call 99;refine(rested_ok DK3.out.book ⟨code,⟨dl,dh⟩,⟨wl,wh⟩,pil,boi,src⟩ fa fn fc day HDAY.out HBOI.out HR.out).mono ?_;rintro e w4 ⟨rfl,hb4⟩;have DK4:=Zh (DK3.out.below hb4);clear hb4)
 clear s0 s1 s2 s3 s4 s5 s6 s7 t1
 have s2:=DK4.out.at 1 2 (v:=Z O dh) rfl rfl
 have t4:=DK4.out.at 0 4 (v:=Z O al) rfl rfl
 go_wp2_with (go_at_call 98;refine(need_false _ _).mono ?_;rintro e w2 ⟨rfl,rfl⟩)
 exact⟨rfl,rfl,DK4.out.quiet⟩
theorem scrape_ok {w:World}{C:Nat→Prop}{B:Nat}{bef aft:Int}{l:List SRow}{c:Yd.Acc}{made:Int}{N:Nat}{kv tv:Value}{m:Nat}(h:Book w C B bef aft l c made N kv tv m)
  (kind day:Int) (code other:Code) (al ah bl bh:Int) (hs:code.size≤maxLen) (hC:∀ k,C k→k<w.heap.size) (dl dh wl wh pil boi:Int) (src:List Int) (fa:Option Addr) (fn fc:Nat) (V:Int) (hV:V≤2000000000000000) {k:Nat} (hk:ixOf l code=some k) (hp:l[k]? = some (⟨code,⟨dl,dh⟩,⟨wl,wh⟩,pil,boi,src⟩,Zl fa fn fc)) (hd:0≤day∧day≤2000) (hb : -1≤boi∧boi≤2000) (hr:restedB aft (⟨code,⟨dl,dh⟩,⟨wl,wh⟩,pil,boi,src⟩:Stk Code) day=true) (hbark:al≤dh) (ud:Bd.Up ⟨dl,dh⟩ V) (ua:Bd.Up ⟨al,ah⟩ 100000000) (u3:c.dust.Up V) :
  Calls Try.prog 87 #[.pointer (some ⟨B,0,none⟩),.agg #[Z O kind,Z O day,Zs code,Zs other,Z O al,Z O ah,Z O bl,Z O bh]] w fun e w'=>e=.returned (.tuple #[])∧Beside C w w'∧Book w' C B bef aft (l.set k (⟨code,Bd.scraped ⟨dl,dh⟩ ⟨al,ah⟩,⟨wl,wh⟩,pil,boi,src⟩,Zl fa fn fc)) { c with dust:=c.dust.add (Bd.dust ⟨dl,dh⟩ ⟨al,ah⟩) } made N kv tv m:=by
 have d3:decide (al≤dh)=true:=by simpa using hbark
 have HUD3:=Zh (show Bd.Up ⟨al,if dh<ah then dh else ah⟩ V from by
  simp only [Bd.Up]at ua ud
  obtain⟨a1,a2,a3⟩:=ua
  obtain⟨b1,b2,b3⟩:=ud
  split <;> exact⟨a1,by simp only;omega,by simp only;omega⟩)
 have HUD:=Zh ud;have HUA:=Zh ua;have HU3:=Zh u3
 have HV8:=Zh (p:=V≤8000000000000000) (Int.le_trans hV (by decide))
 have HDF:=Zh (show -4000000000000000000≤dl-ah∧dl-ah≤4000000000000000000 from by
  simp only [Bd.Up]at ua ud
  obtain⟨a1,a2,a3⟩:=ua
  obtain⟨b1,b2,b3⟩:=ud
  omega)
 clear hbark ud ua u3
 have HDAY:=Zh (show 0≤day∧day≤1000000 by omega)
 have HBOI:=Zh (show -1≤boi∧boi≤1000000 by omega)
 have HR:=Zh hr
 clear hd hb hr
 obtain⟨u3,hu3⟩:∃ b:Bd,b=Bd.mk al (if dh<ah then dh else ah):=⟨_,rfl⟩
 have Eu3:=Zh hu3;clear hu3
 obtain⟨s3,hs3⟩:∃ b:Bd,b=c.dust.add u3:=⟨_,rfl⟩
 have Es3:=Zh hs3;clear hs3
 obtain⟨df,hdf⟩:∃ b:Bd,b=Bd.sub ⟨dl,dh⟩ ⟨al,ah⟩:=⟨_,rfl⟩
 have Edf:=Zh hdf;clear hdf
 have DK1:=Zh (boxed_deed h hC [Z O kind,Z O day,Zs code,Zs other,Z O al,Z O ah,Z O bl,Z O bh])
 have hz1:(w.alloc (.cells #[Z O kind,Z O day,Zs code,Zs other,Z O al,Z O ah,Z O bl,Z O bh] 55)).heap.size=w.heap.size+1:=World.size_alloc _ _
 have HS:=Zh hs;have HK:=Zh hk;have HP:=Zh hp;have HC:=Zh hC
 clear h hs hk hp hC
 go_enter Try.func87,Try.ntmps87
 go_upto_region 2 with(first
  | (go_at_call 94;refine(stack_yes DK1.out.book code HS.out HK.out HP.out).mono ?_;rintro e w1 ⟨rfl,hb1⟩;have DK2:=Zh ((DK1.out.below hb1).alloc 49 [Zs ⟨#[]⟩,Z O 0,Z O 0,Z O 0,Z O 0,Z O 0,Z O 0,Zl none 0 0] rfl);clear hb1)
  | ((with_reducible refine at_store 49 (.tmp 4) (.tmp 8) ?_);go_must (refine Zw rfl 49 (.tmp 4) (.tmp 8) rfl w1.heap.size 0 #[Zs code,Z O dl,Z O dh,Z O wl,Z O wh,Z O pil,Z O boi,Zl fa fn fc] rfl rfl ((DK2.out.loc 1 _ _ _ rfl).1.there (o:=0) (n:=8) (Zn rfl)) size_stack (by simp [Value.oneCell']) ?_)))
 have hgS:=(DK2.out.far 1 rfl).1
 have DK3:=Zh (p:=Desk w ((w1.alloc (.cells #[Zs ⟨#[]⟩,Z O 0,Z O 0,Z O 0,Z O 0,Z O 0,Z O 0,Zl none 0 0] 49)).setCells w1.heap.size 0 [Zs code,Z O dl,Z O dh,Z O wl,Z O wh,Z O pil,Z O boi,Zl fa fn fc]) (fun _=>False) C B bef aft l c made N kv tv m [(w.heap.size,55,[Z O kind,Z O day,Zs code,Zs other,Z O al,Z O ah,Z O bl,Z O bh]),(w1.heap.size,49,[Zs code,Z O dl,Z O dh,Z O wl,Z O wh,Z O pil,Z O boi,Zl fa fn fc])]) (DK2.out.put 1 0 _ rfl)
 clear DK2
 generalize((w1.alloc (.cells #[Zs ⟨#[]⟩,Z O 0,Z O 0,Z O 0,Z O 0,Z O 0,Z O 0,Zl none 0 0] 49)).setCells w1.heap.size 0 [Zs code,Z O dl,Z O dh,Z O wl,Z O wh,Z O pil,Z O boi,Zl fa fn fc])=W3 at DK3 ⊢
 obtain⟨gD,hgD⟩:∃ g,g=w.heap.size:=⟨_,rfl⟩
 obtain⟨gS,hgS2⟩:∃ g,g=w1.heap.size:=⟨_,rfl⟩
 rw [← hgD,← hgS2]at DK3 ⊢
 have HZ:=Zh (And.intro hgD hgS2)
 clear hgD hgS2 hgS hz1
 simp only [Act.put]
 have s0:=DK3.out.at 1 0 (v:=Zs code) rfl rfl
 have s1:=DK3.out.at 1 1 (v:=Z O dl) rfl rfl
 have s2:=DK3.out.at 1 2 (v:=Z O dh) rfl rfl
 have s3:=DK3.out.at 1 3 (v:=Z O wl) rfl rfl
 have s4:=DK3.out.at 1 4 (v:=Z O wh) rfl rfl
 have s5:=DK3.out.at 1 5 (v:=Z O pil) rfl rfl
 have s6:=DK3.out.at 1 6 (v:=Z O boi) rfl rfl
 have s7:=DK3.out.at 1 7 (v:=Zl fa fn fc) rfl rfl
 have t1:=DK3.out.at 0 1 (v:=Z O day) rfl rfl
 go_upto_region 3 with(go_at_call 99;refine(rested_ok DK3.out.book ⟨code,⟨dl,dh⟩,⟨wl,wh⟩,pil,boi,src⟩ fa fn fc day HDAY.out HBOI.out HR.out).mono ?_;rintro e w4 ⟨rfl,hb4⟩;have DK4:=Zh (DK3.out.below hb4);clear hb4)
 clear s0 s1 s2 s3 s4 s5 s6 s7 t1
 have s2:=DK4.out.at 1 2 (v:=Z O dh) rfl rfl
 have t4:=DK4.out.at 0 4 (v:=Z O al) rfl rfl
 go_upto_region 4 with(go_at_call 98;refine(need_true _ _).mono ?_;rintro e w2 ⟨rfl,rfl⟩)
 clear s2 t4
 have q0:=Zg (show w4.cell? ⟨B,9,none⟩=some (Z O c.dust.lo)from DK4.out.own 9 rfl)
 have q1:=Zg (show w4.cell? ⟨B,10,none⟩=some (Z O c.dust.hi)from DK4.out.own 10 rfl)
 have q2:=Zg (DK4.out.at 0 4 (v:=Z O al) rfl rfl)
 have q3:=Zg (DK4.out.at 0 5 (v:=Z O ah) rfl rfl)
 have q4:=Zg (DK4.out.at 1 2 (v:=Z O dh) rfl rfl)
 have k0:∀ d os,Calls Try.prog 95 #[.agg #[Z O c.dust.lo,Z O c.dust.hi],.agg #[Z O al,Z O (if dh<ah then dh else ah)]] (Go.Sort.grow (redrawn w4 d) os) fun e w''=>e=.returned (.agg #[Z O s3.lo,Z O s3.hi])∧∃ p:Regrown,w''=Go.Sort.grow (redrawn w4 p.d) p.os:=regrown_calls (fun w=>by rw [show s3=c.dust.add ⟨al,if dh<ah then dh else ah⟩ by rw [Es3.out,Eu3.out]];exact sum_up HU3.out HV8.out HUD3.out HV8.out rfl w)
 refine region_split_below 21 (by kernel_rfl) (by kernel_rfl) (by kernel_rfl) ?_
 simp only [List.take_succ_cons,List.take_zero,List.drop_succ_cons,List.drop_zero]
 repeat(go_big_quiet_step (first|(with_reducible exact k0 _ _)))
 refine wpQuiet_nil ?_
 intro v0 hw'
 have hb8:Below w4.heap.size w4 v0:=by obtain⟨⟨dq,osq⟩,hw''⟩:=hw';rw [hw''];exact Zk w4 dq osq
 clear hw' q0 q1 q2 q3 q4 k0
 have DK5:=Zh (p:=Desk w v0 (fun _=>False) C B bef aft l c made N kv tv m [(gD,55,[Z O kind,Z O day,Zs code,Zs other,Z O al,Z O ah,Z O bl,Z O bh]),(gS,49,[Zs code,Z O dl,Z O dh,Z O wl,Z O wh,Z O pil,Z O boi,Zl fa fn fc])]) (DK4.out.below hb8)
 clear DK4
 clear hb8
 generalize(if dh<ah then dh else ah)=mn
 have HE:=Zh (p:=v0.there B 9 2) (DK5.out.book.blk.there (o:=9) (n:=2) (Zn rfl))
 refine Zw rfl 32 (.tmp 42) (.tmp 39) rfl B 9 #[Z O s3.lo,Z O s3.hi] rfl rfl HE.out size_bounds (by simp [Value.oneCell']) ?_
 change wpList _ _ _ _ _ (v0.setCells B 9 [Z O s3.lo,Z O s3.hi])
 clear HE
 have DK6:=Zh (show Desk w (v0.setCells B 9 [Z O s3.lo,Z O s3.hi]) C C B bef aft l { c with dust:=s3 } made N kv tv m [(gD,55,[Z O kind,Z O day,Zs code,Zs other,Z O al,Z O ah,Z O bl,Z O bh]),(gS,49,[Zs code,Z O dl,Z O dh,Z O wl,Z O wh,Z O pil,Z O boi,Zl fa fn fc])]from DK5.out.setOwn [Z O bef,Z O aft,kv,tv,.map (some m),Z O c.vapour.lo,Z O c.vapour.hi,Z O c.broth.lo,Z O c.broth.hi] [Z O c.dust.lo,Z O c.dust.hi] [Z O c.soldDry.lo,Z O c.soldDry.hi,Z O c.soldWater.lo,Z O c.soldWater.hi,Z O c.soaked.lo,Z O c.soaked.hi,Z O made] [Z O s3.lo,Z O s3.hi] rfl rfl rfl (fun _ f=>f.elim))
 clear DK5
 generalize World.setCells _ _ _ _=v1 at DK6 ⊢
 simp only [Act.put]
 go_upto_region 5 with fail
 have q0:=Zg (DK6.out.at 1 1 (v:=Z O dl) rfl rfl)
 have q1:=Zg (DK6.out.at 1 2 (v:=Z O dh) rfl rfl)
 have q2:=Zg (DK6.out.at 0 4 (v:=Z O al) rfl rfl)
 have q3:=Zg (DK6.out.at 0 5 (v:=Z O ah) rfl rfl)
 have k0:∀ d os,Calls Try.prog 100 #[.agg #[Z O dl,Z O dh],.agg #[Z O al,Z O ah]] (Go.Sort.grow (redrawn v1 d) os) fun e w''=>e=.returned (.agg #[Z O df.lo,Z O df.hi])∧∃ p:Regrown,w''=Go.Sort.grow (redrawn v1 p.d) p.os:=regrown_calls (fun w=>by exact difference_up HUD.out HV8.out HUA.out (by decide) Edf.out w)
 refine region_seq_below 6 ?_
 simp only [List.take_succ_cons,List.take_zero,List.drop_succ_cons,List.drop_zero]
 repeat(go_big_quiet_step (first|(with_reducible exact k0 _ _)))
 refine wpQuiet_nil ?_
 intro v2 hw'
 have hb8:Below v1.heap.size v1 v2:=by obtain⟨⟨dq,osq⟩,hw''⟩:=hw';rw [hw''];exact Zk v1 dq osq
 clear hw' q0 q1 q2 q3 k0
 have DK7:=Zh (show Desk w v2 C C B bef aft l { c with dust:=s3 } made N kv tv m [(gD,55,[Z O kind,Z O day,Zs code,Zs other,Z O al,Z O ah,Z O bl,Z O bh]),(gS,49,[Zs code,Z O dl,Z O dh,Z O wl,Z O wh,Z O pil,Z O boi,Zl fa fn fc])]from DK6.out.below hb8)
 clear DK6
 clear hb8
 have HE:=Zh (p:=v2.there gS 1 2) ((DK7.out.loc 1 _ _ _ rfl).1.there (o:=1) (n:=2) (Zn rfl))
 refine Zw rfl 32 (.tmp 48) (.tmp 47) rfl gS 1 #[Z O df.lo,Z O df.hi] rfl rfl HE.out size_bounds (by simp [Value.oneCell']) ?_
 change wpList _ _ _ _ _ (v2.setCells gS 1 [Z O df.lo,Z O df.hi])
 clear HE
 have DK8:=Zh (show Desk w (v2.setCells gS 1 [Z O df.lo,Z O df.hi]) C C B bef aft l { c with dust:=s3 } made N kv tv m [(gD,55,[Z O kind,Z O day,Zs code,Zs other,Z O al,Z O ah,Z O bl,Z O bh]),(gS,49,[Zs code,Z O df.lo,Z O df.hi,Z O wl,Z O wh,Z O pil,Z O boi,Zl fa fn fc])]from DK7.out.setLoc 1 [Zs code] [Z O dl,Z O dh] [Z O wl,Z O wh,Z O pil,Z O boi,Zl fa fn fc] [Z O df.lo,Z O df.hi] rfl rfl (by decide))
 clear DK7
 generalize World.setCells _ _ _ _=v3 at DK8 ⊢
 simp only [Act.put]
 go_upto_region 6 with fail
 have q0:=Zg (DK8.out.at 1 1 (v:=Z O df.lo) rfl rfl)
 refine region_seq_below 6 ?_
 simp only [List.take_succ_cons,List.take_zero,List.drop_succ_cons,List.drop_zero]
 repeat(go_big_quiet_step (fail))
 refine wpQuiet_nil ?_
 intro v4 hw'
 have hb8:Below v3.heap.size v3 v4:=by obtain⟨⟨dq,osq⟩,hw''⟩:=hw';rw [hw''];exact Zk v3 dq osq
 clear hw' q0
 have DK9:=Zh (show Desk w v4 C C B bef aft l { c with dust:=s3 } made N kv tv m [(gD,55,[Z O kind,Z O day,Zs code,Zs other,Z O al,Z O ah,Z O bl,Z O bh]),(gS,49,[Zs code,Z O df.lo,Z O df.hi,Z O wl,Z O wh,Z O pil,Z O boi,Zl fa fn fc])]from DK8.out.below hb8)
 clear DK8
 clear hb8
 generalize hmx:(if df.lo<0 then 0 else df.lo)=mx
 have HMX:=Zh hmx;clear hmx
 have hc9:=DK9.out.at 1 1 (v:=Z O df.lo) rfl rfl
 have hf9:=(DK9.out.loc 1 _ _ _ rfl).1.frozen 1
 go_upto_region 7 with fail
 clear hc9 hf9
 have DK10:=Zh (show Desk w (v4.setCell ⟨gS,1,none⟩ (Z O mx)) C C B bef aft l { c with dust:=s3 } made N kv tv m [(gD,55,[Z O kind,Z O day,Zs code,Zs other,Z O al,Z O ah,Z O bl,Z O bh]),(gS,49,[Zs code,Z O mx,Z O df.hi,Z O wl,Z O wh,Z O pil,Z O boi,Zl fa fn fc])]from DK9.out.setLoc1 1 [Zs code] [Z O df.hi,Z O wl,Z O wh,Z O pil,Z O boi,Zl fa fn fc] (Z O df.lo) (Z O mx) 1 rfl rfl (by decide))
 clear DK9
 generalize World.setCell _ _ _=v5 at DK10 ⊢
 have s0:=DK10.out.at 1 0 (v:=Zs code) rfl rfl
 have s1:=DK10.out.at 1 1 (v:=Z O mx) rfl rfl
 have s2:=DK10.out.at 1 2 (v:=Z O df.hi) rfl rfl
 have s3:=DK10.out.at 1 3 (v:=Z O wl) rfl rfl
 have s4:=DK10.out.at 1 4 (v:=Z O wh) rfl rfl
 have s5:=DK10.out.at 1 5 (v:=Z O pil) rfl rfl
 have s6:=DK10.out.at 1 6 (v:=Z O boi) rfl rfl
 have s7:=DK10.out.at 1 7 (v:=Zl fa fn fc) rfl rfl
 go_wp2_with (go_at_call 93;refine(keep_old DK10.out.book ⟨code,⟨mx,df.hi⟩,⟨wl,wh⟩,pil,boi,src⟩ fa fn fc HP.out HK.out rfl (row_same (DK10.out.book.froms _ (List.mem_of_getElem? HP.out)) (fun _ _=>rfl)) (DK10.out.book.fromsLen _ (List.mem_of_getElem? HP.out))).mono ?_;rintro e w9 ⟨rfl,hb9,hk9⟩;have HB9:=Zh (DK10.out.beside.trans hb9 (fun k hk=>.inl hk));have HK9:=Zh hk9;clear hb9 hk9)
 go_end0
 have zu3:=Eu3.out;have zs3:=Es3.out;have zdf:=Edf.out
 subst zdf zs3 zu3
 have em:mx=max 0 (dl-ah):=by rw [← HMX.out];exact if_max (dl-ah)
 have em2:(if dh<ah then dh else ah)=min ah dh:=if_min ah dh
 subst em
 rw [em2]at HK9
 exact⟨rfl,HB9.out,HK9.out⟩
end Go.Proofs.Ytgekekhbhkgekaa
