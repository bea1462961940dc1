/- A deed: split. -/
import Derived.Test.YtgekekhbhkgekaaRYClone
namespace Go.Proofs.Ytgekekhbhkgekaa
open Go Go.RowKit Yd
open _root_.Go.Value renaming int → Z, string → Zs, slice → Zl
open _root_.Go.IntKind renaming i64 → O
open _root_.Go.Lib renaming hid → Zh
open _root_.List renaming setIfInBounds_toArray → Za, set_cons_succ → Zb, set_cons_zero → Zc
open _root_.Nat renaming le_of_ble_eq_true → Zn
open _root_.Go renaming wpList_store_mid → Zw, cell_regrown → Zg, below_regrown → Zk
set_option maxRecDepth 100000
set_option maxHeartbeats 16000000
theorem split_no {w:World}{C:Nat→Prop}{B:Nat}{bef aft:Int}{l:List SRow}{c:Yd.Acc}{made:Int}{N:Nat}{kv tv:Value}{m:Nat}(h:Book w C B bef aft l c made N kv tv m)
  (kind day:Int) (code other:Code) (al ah bl bh:Int) (hs:code.size≤maxLen) (hC:∀ k,C k→k<w.heap.size) (hn:ixOf l code=none) :
  Calls Try.prog 88 #[.pointer (some ⟨B,0,none⟩),.agg #[Z O kind,Z O day,Zs code,Zs other,Z O al,Z O ah,Z O bl,Z O bh]] w fun e w'=>e=.panicked (faulty 1)∧Below w.heap.size w w':=by
 have DK1:=Zh (boxed_deed h hC [Z O kind,Z O day,Zs code,Zs other,Z O al,Z O ah,Z O bl,Z O bh])
 have HS:=Zh hs;have HN:=Zh hn
 clear h hs hn hC
 go_enter Try.func88,Try.ntmps88
 go_wp2_with (go_at_call 94;refine(stack_no DK1.out.book code HS.out HN.out).mono ?_;rintro e w1 ⟨rfl,hb1⟩;have DK2:=Zh (DK1.out.below hb1);clear hb1)
 exact⟨rfl,rfl,DK2.out.quiet⟩
theorem split_found {w:World}{C:Nat→Prop}{B:Nat}{bef aft:Int}{l:List SRow}{c:Yd.Acc}{made:Int}{N:Nat}{kv tv:Value}{m:Nat}(h:Book w C B bef aft l c made N kv tv m)
  (kind day:Int) (code other:Code) (al ah bl bh:Int) (hs:code.size≤maxLen) (hC:∀ k,C k→k<w.heap.size) (dl dh wl wh pil boi:Int) (src:List Int) (fa:Option Addr) (fn fc:Nat) {k:Nat} (hk:ixOf l code=some k) (hp:l[k]? = some (⟨code,⟨dl,dh⟩,⟨wl,wh⟩,pil,boi,src⟩,Zl fa fn fc)) (hso:other.size≤maxLen) {k2:Nat} (hk2:ixOf l other=some k2) {p2:SRow} (hp2:l[k2]? = some p2) :
  Calls Try.prog 88 #[.pointer (some ⟨B,0,none⟩),.agg #[Z O kind,Z O day,Zs code,Zs other,Z O al,Z O ah,Z O bl,Z O bh]] w fun e w'=>e=.panicked (faulty 1)∧Below w.heap.size w w':=by
 have HSO:=Zh hso;clear hso
 have HK2:=Zh hk2;have HP2:=Zh hp2;clear hk2 hp2
 have DK1:=Zh (boxed_deed h hC [Z O kind,Z O day,Zs code,Zs other,Z O al,Z O ah,Z O bl,Z O bh])
 have hz1:(w.alloc (.cells #[Z O kind,Z O day,Zs code,Zs other,Z O al,Z O ah,Z O bl,Z O bh] 55)).heap.size=w.heap.size+1:=World.size_alloc _ _
 have HS:=Zh hs;have HK:=Zh hk;have HP:=Zh hp;have HC:=Zh hC
 clear h hs hk hp hC
 go_enter Try.func88,Try.ntmps88
 go_upto_region 2 with(first
  | (go_at_call 94;refine(stack_yes DK1.out.book code HS.out HK.out HP.out).mono ?_;rintro e w1 ⟨rfl,hb1⟩;have DK2:=Zh ((DK1.out.below hb1).alloc 49 [Zs ⟨#[]⟩,Z O 0,Z O 0,Z O 0,Z O 0,Z O 0,Z O 0,Zl none 0 0] rfl);clear hb1)
  | ((with_reducible refine at_store 49 (.tmp 4) (.tmp 9) ?_);go_must (refine Zw rfl 49 (.tmp 4) (.tmp 9) rfl w1.heap.size 0 #[Zs code,Z O dl,Z O dh,Z O wl,Z O wh,Z O pil,Z O boi,Zl fa fn fc] rfl rfl ((DK2.out.loc 1 _ _ _ rfl).1.there (o:=0) (n:=8) (Zn rfl)) size_stack (by simp [Value.oneCell']) ?_)))
 have hgS:=(DK2.out.far 1 rfl).1
 have DK3:=Zh (p:=Desk w ((w1.alloc (.cells #[Zs ⟨#[]⟩,Z O 0,Z O 0,Z O 0,Z O 0,Z O 0,Z O 0,Zl none 0 0] 49)).setCells w1.heap.size 0 [Zs code,Z O dl,Z O dh,Z O wl,Z O wh,Z O pil,Z O boi,Zl fa fn fc]) (fun _=>False) C B bef aft l c made N kv tv m [(w.heap.size,55,[Z O kind,Z O day,Zs code,Zs other,Z O al,Z O ah,Z O bl,Z O bh]),(w1.heap.size,49,[Zs code,Z O dl,Z O dh,Z O wl,Z O wh,Z O pil,Z O boi,Zl fa fn fc])]) (DK2.out.put 1 0 _ rfl)
 clear DK2
 generalize((w1.alloc (.cells #[Zs ⟨#[]⟩,Z O 0,Z O 0,Z O 0,Z O 0,Z O 0,Z O 0,Zl none 0 0] 49)).setCells w1.heap.size 0 [Zs code,Z O dl,Z O dh,Z O wl,Z O wh,Z O pil,Z O boi,Zl fa fn fc])=W3 at DK3 ⊢
 obtain⟨gD,hgD⟩:∃ g,g=w.heap.size:=⟨_,rfl⟩
 obtain⟨gS,hgS2⟩:∃ g,g=w1.heap.size:=⟨_,rfl⟩
 rw [← hgD,← hgS2]at DK3 ⊢
 have HZ:=Zh (And.intro hgD hgS2)
 clear hgD hgS2 hgS hz1
 simp only [Act.put]
 have t3:=DK3.out.at 0 3 (v:=Zs other) rfl rfl
 go_wp2_with (go_at_call 92;refine(needNew_found DK3.out.book other HSO.out HK2.out HP2.out).mono ?_;rintro e w4 ⟨rfl,hb4⟩;have DK9:=Zh (DK3.out.below hb4);clear hb4)
 exact⟨rfl,rfl,DK9.out.quiet⟩
theorem split_full {w:World}{C:Nat→Prop}{B:Nat}{bef aft:Int}{l:List SRow}{c:Yd.Acc}{made:Int}{N:Nat}{kv tv:Value}{m:Nat}(h:Book w C B bef aft l c made N kv tv m)
  (kind day:Int) (code other:Code) (al ah bl bh:Int) (hs:code.size≤maxLen) (hC:∀ k,C k→k<w.heap.size) (dl dh wl wh pil boi:Int) (src:List Int) (fa:Option Addr) (fn fc:Nat) {k:Nat} (hk:ixOf l code=some k) (hp:l[k]? = some (⟨code,⟨dl,dh⟩,⟨wl,wh⟩,pil,boi,src⟩,Zl fa fn fc)) (hso:other.size≤maxLen) (hn:ixOf l other=none) (h8:8≤l.length) :
  Calls Try.prog 88 #[.pointer (some ⟨B,0,none⟩),.agg #[Z O kind,Z O day,Zs code,Zs other,Z O al,Z O ah,Z O bl,Z O bh]] w fun e w'=>e=.panicked (faulty 2)∧Below w.heap.size w w':=by
 have HSO:=Zh hso;clear hso
 have HN:=Zh hn;have H8:=Zh h8;clear hn h8
 have DK1:=Zh (boxed_deed h hC [Z O kind,Z O day,Zs code,Zs other,Z O al,Z O ah,Z O bl,Z O bh])
 have hz1:(w.alloc (.cells #[Z O kind,Z O day,Zs code,Zs other,Z O al,Z O ah,Z O bl,Z O bh] 55)).heap.size=w.heap.size+1:=World.size_alloc _ _
 have HS:=Zh hs;have HK:=Zh hk;have HP:=Zh hp;have HC:=Zh hC
 clear h hs hk hp hC
 go_enter Try.func88,Try.ntmps88
 go_upto_region 2 with(first
  | (go_at_call 94;refine(stack_yes DK1.out.book code HS.out HK.out HP.out).mono ?_;rintro e w1 ⟨rfl,hb1⟩;have DK2:=Zh ((DK1.out.below hb1).alloc 49 [Zs ⟨#[]⟩,Z O 0,Z O 0,Z O 0,Z O 0,Z O 0,Z O 0,Zl none 0 0] rfl);clear hb1)
  | ((with_reducible refine at_store 49 (.tmp 4) (.tmp 9) ?_);go_must (refine Zw rfl 49 (.tmp 4) (.tmp 9) rfl w1.heap.size 0 #[Zs code,Z O dl,Z O dh,Z O wl,Z O wh,Z O pil,Z O boi,Zl fa fn fc] rfl rfl ((DK2.out.loc 1 _ _ _ rfl).1.there (o:=0) (n:=8) (Zn rfl)) size_stack (by simp [Value.oneCell']) ?_)))
 have hgS:=(DK2.out.far 1 rfl).1
 have DK3:=Zh (p:=Desk w ((w1.alloc (.cells #[Zs ⟨#[]⟩,Z O 0,Z O 0,Z O 0,Z O 0,Z O 0,Z O 0,Zl none 0 0] 49)).setCells w1.heap.size 0 [Zs code,Z O dl,Z O dh,Z O wl,Z O wh,Z O pil,Z O boi,Zl fa fn fc]) (fun _=>False) C B bef aft l c made N kv tv m [(w.heap.size,55,[Z O kind,Z O day,Zs code,Zs other,Z O al,Z O ah,Z O bl,Z O bh]),(w1.heap.size,49,[Zs code,Z O dl,Z O dh,Z O wl,Z O wh,Z O pil,Z O boi,Zl fa fn fc])]) (DK2.out.put 1 0 _ rfl)
 clear DK2
 generalize((w1.alloc (.cells #[Zs ⟨#[]⟩,Z O 0,Z O 0,Z O 0,Z O 0,Z O 0,Z O 0,Zl none 0 0] 49)).setCells w1.heap.size 0 [Zs code,Z O dl,Z O dh,Z O wl,Z O wh,Z O pil,Z O boi,Zl fa fn fc])=W3 at DK3 ⊢
 obtain⟨gD,hgD⟩:∃ g,g=w.heap.size:=⟨_,rfl⟩
 obtain⟨gS,hgS2⟩:∃ g,g=w1.heap.size:=⟨_,rfl⟩
 rw [← hgD,← hgS2]at DK3 ⊢
 have HZ:=Zh (And.intro hgD hgS2)
 clear hgD hgS2 hgS hz1
 simp only [Act.put]
 have t3:=DK3.out.at 0 3 (v:=Zs other) rfl rfl
 go_wp2_with (go_at_call 92;refine(needNew_full DK3.out.book other HSO.out HN.out H8.out).mono ?_;rintro e w4 ⟨rfl,hb4⟩;have DK9:=Zh (DK3.out.below hb4);clear hb4)
 exact⟨rfl,rfl,DK9.out.quiet⟩
theorem split_ok {w:World}{C:Nat→Prop}{B:Nat}{bef aft:Int}{l:List SRow}{c:Yd.Acc}{made:Int}{N:Nat}{kv tv:Value}{m:Nat}(h:Book w C B bef aft l c made N kv tv m)
  (kind day:Int) (code other:Code) (al ah bl bh:Int) (hs:code.size≤maxLen) (hC:∀ k,C k→k<w.heap.size) (dl dh wl wh pil boi:Int) (src:List Int) (fa:Option Addr) (fn fc:Nat) (V:Int) (hV:V≤2000000000000000) {k:Nat} (hk:ixOf l code=some k) (hp:l[k]? = some (⟨code,⟨dl,dh⟩,⟨wl,wh⟩,pil,boi,src⟩,Zl fa fn fc)) (hso:other.size≤maxLen) (hn:ixOf l other=none) (h8:l.length<8) (hN:N<1000000) (h0:0<src.length) (ud:Bd.Up ⟨dl,dh⟩ V) (uw:Bd.Up ⟨wl,wh⟩ V) (ua:Bd.Up ⟨al,ah⟩ 1000) :
  Calls Try.prog 88 #[.pointer (some ⟨B,0,none⟩),.agg #[Z O kind,Z O day,Zs code,Zs other,Z O al,Z O ah,Z O bl,Z O bh]] w (DeedDone w C B bef aft (List.set (l.map (fun p:SRow=>p.1)++[(⟨other,Bd.part ⟨dl,dh⟩ ⟨al,ah⟩,Bd.part ⟨wl,wh⟩ ⟨al,ah⟩,pil,boi,src⟩:Stk Code)]) k (⟨code,Bd.left ⟨dl,dh⟩ ⟨al,ah⟩,Bd.left ⟨wl,wh⟩ ⟨al,ah⟩,pil,boi,src⟩:Stk Code)) c made (N+1) m):=by
 have HUD:=Zh ud;have HUW:=Zh uw;have HUA:=Zh (up_mono ua (show(1000:Int)≤3000 by decide))
 have hkl:=(List.getElem?_eq_some_iff.1 hp).1
 have HKL:=Zh hkl
 have HL0:=Zh h0;have HL1:=Zh (h.fromsLen _ (List.mem_of_getElem? hp))
 have hfn:fn=src.length:=by
  obtain⟨g,cap,cur,h1,_⟩:=row_block (h.froms _ (List.mem_of_getElem? hp)) h0
  simp only [Value.slice.injEq]at h1
  exact h1.2.1
 subst hfn
 clear ud uw ua hkl h0
 obtain⟨p1,hp1⟩:∃ b:Bd,b=Bd.part ⟨dl,dh⟩ ⟨al,ah⟩:=⟨_,rfl⟩
 have Ep1:=Zh hp1;clear hp1
 obtain⟨p2,hp2⟩:∃ b:Bd,b=Bd.part ⟨wl,wh⟩ ⟨al,ah⟩:=⟨_,rfl⟩
 have Ep2:=Zh hp2;clear hp2
 obtain⟨r1,hr1⟩:∃ b:Bd,b=Bd.left ⟨dl,dh⟩ ⟨al,ah⟩:=⟨_,rfl⟩
 have Er1:=Zh hr1;clear hr1
 obtain⟨r2,hr2⟩:∃ b:Bd,b=Bd.left ⟨wl,wh⟩ ⟨al,ah⟩:=⟨_,rfl⟩
 have Er2:=Zh hr2;clear hr2
 have HSO:=Zh hso;have HN:=Zh hn;have H8:=Zh h8;have HNN:=Zh hN;clear hso hn h8 hN
 have DK1:=Zh (boxed_deed h hC [Z O kind,Z O day,Zs code,Zs other,Z O al,Z O ah,Z O bl,Z O bh])
 have hz1:(w.alloc (.cells #[Z O kind,Z O day,Zs code,Zs other,Z O al,Z O ah,Z O bl,Z O bh] 55)).heap.size=w.heap.size+1:=World.size_alloc _ _
 have HS:=Zh hs;have HK:=Zh hk;have HP:=Zh hp;have HC:=Zh hC
 clear h hs hk hp hC
 go_enter Try.func88,Try.ntmps88
 go_upto_region 2 with(first
  | (go_at_call 94;refine(stack_yes DK1.out.book code HS.out HK.out HP.out).mono ?_;rintro e w1 ⟨rfl,hb1⟩;have DK2:=Zh ((DK1.out.below hb1).alloc 49 [Zs ⟨#[]⟩,Z O 0,Z O 0,Z O 0,Z O 0,Z O 0,Z O 0,Zl none 0 0] rfl);clear hb1)
  | ((with_reducible refine at_store 49 (.tmp 4) (.tmp 9) ?_);go_must (refine Zw rfl 49 (.tmp 4) (.tmp 9) rfl w1.heap.size 0 #[Zs code,Z O dl,Z O dh,Z O wl,Z O wh,Z O pil,Z O boi,Zl fa src.length fc] rfl rfl ((DK2.out.loc 1 _ _ _ rfl).1.there (o:=0) (n:=8) (Zn rfl)) size_stack (by simp [Value.oneCell']) ?_)))
 have hgS:=(DK2.out.far 1 rfl).1
 have DK3:=Zh (p:=Desk w ((w1.alloc (.cells #[Zs ⟨#[]⟩,Z O 0,Z O 0,Z O 0,Z O 0,Z O 0,Z O 0,Zl none 0 0] 49)).setCells w1.heap.size 0 [Zs code,Z O dl,Z O dh,Z O wl,Z O wh,Z O pil,Z O boi,Zl fa src.length fc]) (fun _=>False) C B bef aft l c made N kv tv m [(w.heap.size,55,[Z O kind,Z O day,Zs code,Zs other,Z O al,Z O ah,Z O bl,Z O bh]),(w1.heap.size,49,[Zs code,Z O dl,Z O dh,Z O wl,Z O wh,Z O pil,Z O boi,Zl fa src.length fc])]) (DK2.out.put 1 0 _ rfl)
 clear DK2
 generalize((w1.alloc (.cells #[Zs ⟨#[]⟩,Z O 0,Z O 0,Z O 0,Z O 0,Z O 0,Z O 0,Zl none 0 0] 49)).setCells w1.heap.size 0 [Zs code,Z O dl,Z O dh,Z O wl,Z O wh,Z O pil,Z O boi,Zl fa src.length fc])=W3 at DK3 ⊢
 obtain⟨gD,hgD⟩:∃ g,g=w.heap.size:=⟨_,rfl⟩
 obtain⟨gS,hgS2⟩:∃ g,g=w1.heap.size:=⟨_,rfl⟩
 rw [← hgD,← hgS2]at DK3 ⊢
 have HZ:=Zh (And.intro hgD hgS2)
 clear hgD hgS2 hgS hz1
 simp only [Act.put]
 have t3:=DK3.out.at 0 3 (v:=Zs other) rfl rfl
 go_upto_region 3 with(go_at_call 92;refine(needNew_ok DK3.out.book other HSO.out HN.out H8.out).mono ?_;rintro e w4 ⟨rfl,hb4⟩;have DK4:=Zh (DK3.out.below hb4);clear hb4)
 clear t3 DK3
 have s0:=DK4.out.at 1 0 (v:=Zs code) rfl rfl
 have s1:=DK4.out.at 1 1 (v:=Z O dl) rfl rfl
 have s2:=DK4.out.at 1 2 (v:=Z O dh) rfl rfl
 have s3:=DK4.out.at 1 3 (v:=Z O wl) rfl rfl
 have s4:=DK4.out.at 1 4 (v:=Z O wh) rfl rfl
 have s5:=DK4.out.at 1 5 (v:=Z O pil) rfl rfl
 have s6:=DK4.out.at 1 6 (v:=Z O boi) rfl rfl
 have s7:=DK4.out.at 1 7 (v:=Zl fa src.length fc) rfl rfl
 have DA:=Zh (DK4.out.alloc 49 [Zs ⟨#[]⟩,Z O 0,Z O 0,Z O 0,Z O 0,Z O 0,Z O 0,Zl none 0 0] rfl)
 go_upto_region 4 with((with_reducible refine at_store 49 (.tmp 5) (.tmp 14) ?_);go_must (refine Zw rfl 49 (.tmp 5) (.tmp 14) rfl w4.heap.size 0 #[Zs code,Z O dl,Z O dh,Z O wl,Z O wh,Z O pil,Z O boi,Zl fa src.length fc] rfl rfl ((DA.out.loc 2 _ _ _ rfl).1.there (o:=0) (n:=8) (Zn rfl)) size_stack (by simp [Value.oneCell']) ?_))
 have DK5:=Zh (p:=Desk w ((w4.alloc (.cells #[Zs ⟨#[]⟩,Z O 0,Z O 0,Z O 0,Z O 0,Z O 0,Z O 0,Zl none 0 0] 49)).setCells w4.heap.size 0 [Zs code,Z O dl,Z O dh,Z O wl,Z O wh,Z O pil,Z O boi,Zl fa src.length fc]) (fun _=>False) C B bef aft l c made N kv tv m [(gD,55,[Z O kind,Z O day,Zs code,Zs other,Z O al,Z O ah,Z O bl,Z O bh]),(gS,49,[Zs code,Z O dl,Z O dh,Z O wl,Z O wh,Z O pil,Z O boi,Zl fa src.length fc]),(w4.heap.size,49,[Zs code,Z O dl,Z O dh,Z O wl,Z O wh,Z O pil,Z O boi,Zl fa src.length fc])]) (DA.out.put 2 0 _ rfl)
 clear  DA DK4
 generalize((w4.alloc (.cells #[Zs ⟨#[]⟩,Z O 0,Z O 0,Z O 0,Z O 0,Z O 0,Z O 0,Zl none 0 0] 49)).setCells w4.heap.size 0 [Zs code,Z O dl,Z O dh,Z O wl,Z O wh,Z O pil,Z O boi,Zl fa src.length fc])=v0 at DK5 ⊢
 obtain⟨gO,hgO⟩:∃ g,g=w4.heap.size:=⟨_,rfl⟩
 rw [← hgO]at DK5 ⊢
 clear hgO
 simp only [Act.put]
 clear s0 s1 s2 s3 s4 s5 s6 s7
 skip
 have HSRC:=Zh (p:=v0.ownsRow 0 3 1 (Zl fa src.length fc) src.length (intCells src)) (DK5.out.book.froms _ (List.mem_of_getElem? HP.out))
 refine region_till [8] (fun w'=>Blk w' gD 55 #[Z O kind,Z O day,Zs code,Zs other,Z O al,Z O ah,Z O bl,Z O bh]∧Blk w' gS 49 #[Zs code,Z O dl,Z O dh,Z O wl,Z O wh,Z O pil,Z O boi,Zl fa src.length fc]) 9 [false,false,false,false,false,false,false,false,false] (by kernel_rfl) rfl rfl ?_
 have MK1:=fun(W:World) (h:(fun w'=>Blk w' gD 55 #[Z O kind,Z O day,Zs code,Zs other,Z O al,Z O ah,Z O bl,Z O bh]∧Blk w' gS 49 #[Zs code,Z O dl,Z O dh,Z O wl,Z O wh,Z O pil,Z O boi,Zl fa src.length fc]) W)=>Zh h
 have DK6:=Zh (DK5.out.drew)
 clear DK5
 generalize v0.drew=v1 at DK6 ⊢
 have HT:=MK1 v1 ⟨(DK6.out.loc 0 _ _ _ rfl).1,(DK6.out.loc 1 _ _ _ rfl).1⟩
 refine till_pure (i:=0) (v:=.pointer (some ⟨gD,3,none⟩)) rfl rfl (by kernel_rfl) (fun _ _ _ h=>h) (yields_of rfl (fun w' _=>by simp [go_sem])) (fun _=>HT.out) ?_
 simp only [Za,Zb,Zc]
 refine till_load (i:=1) (v:=Zs other) rfl rfl (by kernel_rfl) (fun _ _ _ h=>h) (yields_of rfl (fun w' hw'=>by have hcx:=Blk.at hw'.1 3 (Zs other) rfl;simp [go_sem,hcx])) (fun _=>HT.out) ?_
 simp only [Za,Zb,Zc]
 refine till_pure (i:=2) (v:=.pointer (some ⟨gS,7,none⟩)) rfl rfl (by kernel_rfl) (fun _ _ _ h=>h) (yields_of rfl (fun w' _=>by simp [go_sem])) (fun _=>HT.out) ?_
 simp only [Za,Zb,Zc]
 refine till_load (i:=3) (v:=Zl fa src.length fc) rfl rfl (by kernel_rfl) (fun _ _ _ h=>h) (yields_of rfl (fun w' hw'=>by have hcx:=Blk.at hw'.2 7 (Zl fa src.length fc) rfl;simp [go_sem,hcx])) (fun _=>HT.out) ?_
 simp only [Za,Zb,Zc]
 refine till_pure (i:=5) (v:=.pointer (some ⟨gO,0,none⟩)) rfl rfl (by kernel_rfl) (fun _ _ _ h=>h) (yields_of rfl (fun w' _=>by simp [go_sem])) (fun _=>HT.out) ?_
 simp only [Za,Zb,Zc]
 refine till_only (j:=4) (by kernel_rfl) rfl ?_
 have HSR:=Zh (p:=v1.ownsRow 0 3 1 (Zl fa src.length fc) src.length (intCells src)) (DK6.out.book.froms _ (List.mem_of_getElem? HP.out))
 go_wp2_with (go_at_call 101;go_must (refine(clone_calls (xs:=src) HSR.out HL0.out HL1.out).mono ?_);rintro e v2 ⟨gc,cc,cur,rfl,hbc,hkc,hgc,hnc,hmc,hsc,htc⟩;have DK7:=Zh (DK6.out.grow hbc hkc hgc);have HCC:=Zh (And.intro hnc (And.intro hmc (And.intro hsc htc)));clear hbc hkc hgc hnc hmc hsc htc HSR)
 have HT:=MK1 v2 ⟨(DK7.out.loc 0 _ _ _ rfl).1,(DK7.out.loc 1 _ _ _ rfl).1⟩
 refine⟨fun _=>HT.out,?_⟩
 try simp only [Za,Zb,Zc]
 refine till_only (j:=6) (by kernel_rfl) rfl ?_
 have hc9:=DK7.out.at 2 0 (v:=Zs code) rfl rfl
 have hf9:=(DK7.out.loc 2 _ _ _ rfl).1.frozen 0
 go_wp2_with fail
 clear hc9 hf9
 have DK8:=Zh (p:=Desk w (v2.setCell ⟨gO,0,none⟩ (Zs other)) (fun _=>False) C B bef aft l c made N kv tv m [(gD,55,[Z O kind,Z O day,Zs code,Zs other,Z O al,Z O ah,Z O bl,Z O bh]),(gS,49,[Zs code,Z O dl,Z O dh,Z O wl,Z O wh,Z O pil,Z O boi,Zl fa src.length fc]),(gO,49,[Zs other,Z O dl,Z O dh,Z O wl,Z O wh,Z O pil,Z O boi,Zl fa src.length fc]),(gc,3,cur.toList)]) (DK7.out.setLoc1 2 [] [Z O dl,Z O dh,Z O wl,Z O wh,Z O pil,Z O boi,Zl fa src.length fc] (Zs code) (Zs other) 0 rfl rfl (by decide))
 clear DK7
 generalize World.setCell _ _ _=v3 at DK8 ⊢
 have HT:=MK1 v3 ⟨(DK8.out.loc 0 _ _ _ rfl).1,(DK8.out.loc 1 _ _ _ rfl).1⟩
 refine⟨fun _=>HT.out,?_⟩
 try simp only [Za,Zb,Zc]
 refine till_pure (i:=7) (v:=.pointer (some ⟨gO,7,none⟩)) rfl rfl (by kernel_rfl) (fun _ _ _ h=>h) (yields_of rfl (fun w' _=>by simp [go_sem])) (fun _=>HT.out) ?_
 simp only [Za,Zb,Zc]
 refine till_only (j:=8) (by kernel_rfl) rfl ?_
 have hc9:=DK8.out.at 2 7 (v:=Zl fa src.length fc) rfl rfl
 have hf9:=(DK8.out.loc 2 _ _ _ rfl).1.frozen 7
 go_wp2_with fail
 clear hc9 hf9
 have DK9:=Zh (p:=Desk w (v3.setCell ⟨gO,7,none⟩ (Zl (some ⟨gc,0,none⟩) src.length cc)) (fun _=>False) C B bef aft l c made N kv tv m [(gD,55,[Z O kind,Z O day,Zs code,Zs other,Z O al,Z O ah,Z O bl,Z O bh]),(gS,49,[Zs code,Z O dl,Z O dh,Z O wl,Z O wh,Z O pil,Z O boi,Zl fa src.length fc]),(gO,49,[Zs other,Z O dl,Z O dh,Z O wl,Z O wh,Z O pil,Z O boi,Zl (some ⟨gc,0,none⟩) src.length cc]),(gc,3,cur.toList)]) (DK8.out.setLoc1 2 [Zs other,Z O dl,Z O dh,Z O wl,Z O wh,Z O pil,Z O boi] [] (Zl fa src.length fc) (Zl (some ⟨gc,0,none⟩) src.length cc) 7 rfl rfl (by decide))
 clear DK8
 generalize World.setCell _ _ _=v4 at DK9 ⊢
 refine⟨fun h=>by simp at h,?_⟩
 try simp only [Za,Zb,Zc]
 refine till_done (by kernel_rfl) ?_
 go_upto_region 5 with fail
 have q0:=Zg (DK9.out.at 1 1 (v:=Z O dl) rfl rfl)
 have q1:=Zg (DK9.out.at 1 2 (v:=Z O dh) rfl rfl)
 have q2:=Zg (DK9.out.at 0 4 (v:=Z O al) rfl rfl)
 have q3:=Zg (DK9.out.at 0 5 (v:=Z O ah) rfl rfl)
 have q4:=Zg (DK9.out.at 1 3 (v:=Z O wl) rfl rfl)
 have q5:=Zg (DK9.out.at 1 4 (v:=Z O wh) rfl rfl)
 have k0:∀ d os,Calls Try.prog 96 #[.agg #[Z O dl,Z O dh],.agg #[Z O al,Z O ah]] (Go.Sort.grow (redrawn v4 d) os) fun e w''=>e=.returned (.agg #[Z O p1.lo,Z O p1.hi])∧∃ p:Regrown,w''=Go.Sort.grow (redrawn v4 p.d) p.os:=regrown_calls (fun w=>by exact part_up HUD.out hV HUA.out Ep1.out w)
 have k1:∀ d os,Calls Try.prog 96 #[.agg #[Z O wl,Z O wh],.agg #[Z O al,Z O ah]] (Go.Sort.grow (redrawn v4 d) os) fun e w''=>e=.returned (.agg #[Z O p2.lo,Z O p2.hi])∧∃ p:Regrown,w''=Go.Sort.grow (redrawn v4 p.d) p.os:=regrown_calls (fun w=>by exact part_up HUW.out hV HUA.out Ep2.out w)
 refine region_split_below 11 (by kernel_rfl) (by kernel_rfl) (by kernel_rfl) ?_
 simp only [List.take_succ_cons,List.take_zero,List.drop_succ_cons,List.drop_zero]
 repeat(go_big_quiet_step (first|(with_reducible exact k0 _ _)|(with_reducible exact k1 _ _)))
 refine wpQuiet_nil ?_
 intro v5 hw'
 have hb8:Below v4.heap.size v4 v5:=by obtain⟨⟨dq,osq⟩,hw''⟩:=hw';rw [hw''];exact Zk v4 dq osq
 clear hw' q0 q1 q2 q3 q4 q5 k0 k1
 have DK10:=Zh (p:=Desk w v5 (fun _=>False) C B bef aft l c made N kv tv m [(gD,55,[Z O kind,Z O day,Zs code,Zs other,Z O al,Z O ah,Z O bl,Z O bh]),(gS,49,[Zs code,Z O dl,Z O dh,Z O wl,Z O wh,Z O pil,Z O boi,Zl fa src.length fc]),(gO,49,[Zs other,Z O dl,Z O dh,Z O wl,Z O wh,Z O pil,Z O boi,Zl (some ⟨gc,0,none⟩) src.length cc]),(gc,3,cur.toList)]) (DK9.out.below hb8)
 clear DK9
 clear hb8
 have HE:=Zh (p:=v5.there gO 1 2) ((DK10.out.loc 2 _ _ _ rfl).1.there (o:=1) (n:=2) (Zn rfl))
 refine Zw rfl 32 (.tmp 32) (.tmp 26) rfl gO 1 #[Z O p1.lo,Z O p1.hi] rfl rfl HE.out size_bounds (by simp [Value.oneCell']) ?_
 change wpList _ _ _ _ _ (v5.setCells gO 1 [Z O p1.lo,Z O p1.hi])
 clear HE
 have DK11:=Zh (p:=Desk w (v5.setCells gO 1 [Z O p1.lo,Z O p1.hi]) (fun _=>False) C B bef aft l c made N kv tv m [(gD,55,[Z O kind,Z O day,Zs code,Zs other,Z O al,Z O ah,Z O bl,Z O bh]),(gS,49,[Zs code,Z O dl,Z O dh,Z O wl,Z O wh,Z O pil,Z O boi,Zl fa src.length fc]),(gO,49,[Zs other,Z O p1.lo,Z O p1.hi,Z O wl,Z O wh,Z O pil,Z O boi,Zl (some ⟨gc,0,none⟩) src.length cc]),(gc,3,cur.toList)]) (DK10.out.put 2 1 _ rfl)
 clear DK10
 generalize World.setCells _ _ _ _=v6 at DK11 ⊢
 simp only [Act.put]
 have HE:=Zh (p:=v6.there gO 3 2) ((DK11.out.loc 2 _ _ _ rfl).1.there (o:=3) (n:=2) (Zn rfl))
 go_upto_region 6 with((with_reducible refine at_store 32 (.tmp 33) (.tmp 31) ?_);go_must (refine Zw rfl 32 (.tmp 33) (.tmp 31) rfl gO 3 #[Z O p2.lo,Z O p2.hi] rfl rfl HE.out size_bounds (by simp [Value.oneCell']) ?_))
 clear HE
 have DK12:=Zh (p:=Desk w (v6.setCells gO 3 [Z O p2.lo,Z O p2.hi]) (fun _=>False) C B bef aft l c made N kv tv m [(gD,55,[Z O kind,Z O day,Zs code,Zs other,Z O al,Z O ah,Z O bl,Z O bh]),(gS,49,[Zs code,Z O dl,Z O dh,Z O wl,Z O wh,Z O pil,Z O boi,Zl fa src.length fc]),(gO,49,[Zs other,Z O p1.lo,Z O p1.hi,Z O p2.lo,Z O p2.hi,Z O pil,Z O boi,Zl (some ⟨gc,0,none⟩) src.length cc]),(gc,3,cur.toList)]) (DK11.out.put 2 3 _ rfl)
 clear DK11
 generalize World.setCells _ _ _ _=v7 at DK12 ⊢
 try simp only [Act.put]
 have q0:=Zg (DK12.out.at 1 1 (v:=Z O dl) rfl rfl)
 have q1:=Zg (DK12.out.at 1 2 (v:=Z O dh) rfl rfl)
 have q2:=Zg (DK12.out.at 0 4 (v:=Z O al) rfl rfl)
 have q3:=Zg (DK12.out.at 0 5 (v:=Z O ah) rfl rfl)
 have q4:=Zg (DK12.out.at 1 3 (v:=Z O wl) rfl rfl)
 have q5:=Zg (DK12.out.at 1 4 (v:=Z O wh) rfl rfl)
 have k0:∀ d os,Calls Try.prog 97 #[.agg #[Z O dl,Z O dh],.agg #[Z O al,Z O ah]] (Go.Sort.grow (redrawn v7 d) os) fun e w''=>e=.returned (.agg #[Z O r1.lo,Z O r1.hi])∧∃ p:Regrown,w''=Go.Sort.grow (redrawn v7 p.d) p.os:=regrown_calls (fun w=>by exact left_up HUD.out hV HUA.out Er1.out w)
 have k1:∀ d os,Calls Try.prog 97 #[.agg #[Z O wl,Z O wh],.agg #[Z O al,Z O ah]] (Go.Sort.grow (redrawn v7 d) os) fun e w''=>e=.returned (.agg #[Z O r2.lo,Z O r2.hi])∧∃ p:Regrown,w''=Go.Sort.grow (redrawn v7 p.d) p.os:=regrown_calls (fun w=>by exact left_up HUW.out hV HUA.out Er2.out w)
 refine region_split_below 11 (by kernel_rfl) (by kernel_rfl) (by kernel_rfl) ?_
 simp only [List.take_succ_cons,List.take_zero,List.drop_succ_cons,List.drop_zero]
 repeat(go_big_quiet_step (first|(with_reducible exact k0 _ _)|(with_reducible exact k1 _ _)))
 refine wpQuiet_nil ?_
 intro v8 hw'
 have hb8:Below v7.heap.size v7 v8:=by obtain⟨⟨dq,osq⟩,hw''⟩:=hw';rw [hw''];exact Zk v7 dq osq
 clear hw' q0 q1 q2 q3 q4 q5 k0 k1
 have DK13:=Zh (p:=Desk w v8 (fun _=>False) C B bef aft l c made N kv tv m [(gD,55,[Z O kind,Z O day,Zs code,Zs other,Z O al,Z O ah,Z O bl,Z O bh]),(gS,49,[Zs code,Z O dl,Z O dh,Z O wl,Z O wh,Z O pil,Z O boi,Zl fa src.length fc]),(gO,49,[Zs other,Z O p1.lo,Z O p1.hi,Z O p2.lo,Z O p2.hi,Z O pil,Z O boi,Zl (some ⟨gc,0,none⟩) src.length cc]),(gc,3,cur.toList)]) (DK12.out.below hb8)
 clear DK12
 clear hb8
 have HE:=Zh (p:=v8.there gS 1 2) ((DK13.out.loc 1 _ _ _ rfl).1.there (o:=1) (n:=2) (Zn rfl))
 refine Zw rfl 32 (.tmp 44) (.tmp 38) rfl gS 1 #[Z O r1.lo,Z O r1.hi] rfl rfl HE.out size_bounds (by simp [Value.oneCell']) ?_
 change wpList _ _ _ _ _ (v8.setCells gS 1 [Z O r1.lo,Z O r1.hi])
 clear HE
 have DK14:=Zh (p:=Desk w (v8.setCells gS 1 [Z O r1.lo,Z O r1.hi]) (fun _=>False) C B bef aft l c made N kv tv m [(gD,55,[Z O kind,Z O day,Zs code,Zs other,Z O al,Z O ah,Z O bl,Z O bh]),(gS,49,[Zs code,Z O r1.lo,Z O r1.hi,Z O wl,Z O wh,Z O pil,Z O boi,Zl fa src.length fc]),(gO,49,[Zs other,Z O p1.lo,Z O p1.hi,Z O p2.lo,Z O p2.hi,Z O pil,Z O boi,Zl (some ⟨gc,0,none⟩) src.length cc]),(gc,3,cur.toList)]) (DK13.out.put 1 1 _ rfl)
 clear DK13
 generalize World.setCells _ _ _ _=v9 at DK14 ⊢
 simp only [Act.put]
 have HE:=Zh (p:=v9.there gS 3 2) ((DK14.out.loc 1 _ _ _ rfl).1.there (o:=3) (n:=2) (Zn rfl))
 go_upto_region 7 with((with_reducible refine at_store 32 (.tmp 45) (.tmp 43) ?_);go_must (refine Zw rfl 32 (.tmp 45) (.tmp 43) rfl gS 3 #[Z O r2.lo,Z O r2.hi] rfl rfl HE.out size_bounds (by simp [Value.oneCell']) ?_))
 clear HE
 have DK15:=Zh (p:=Desk w (v9.setCells gS 3 [Z O r2.lo,Z O r2.hi]) (fun _=>False) C B bef aft l c made N kv tv m [(gD,55,[Z O kind,Z O day,Zs code,Zs other,Z O al,Z O ah,Z O bl,Z O bh]),(gS,49,[Zs code,Z O r1.lo,Z O r1.hi,Z O r2.lo,Z O r2.hi,Z O pil,Z O boi,Zl fa src.length fc]),(gO,49,[Zs other,Z O p1.lo,Z O p1.hi,Z O p2.lo,Z O p2.hi,Z O pil,Z O boi,Zl (some ⟨gc,0,none⟩) src.length cc]),(gc,3,cur.toList)]) (DK14.out.put 1 3 _ rfl)
 clear DK14
 generalize World.setCells _ _ _ _=v10 at DK15 ⊢
 try simp only [Act.put]
 have s0:=DK15.out.at 1 0 (v:=Zs code) rfl rfl
 have s1:=DK15.out.at 1 1 (v:=Z O r1.lo) rfl rfl
 have s2:=DK15.out.at 1 2 (v:=Z O r1.hi) rfl rfl
 have s3:=DK15.out.at 1 3 (v:=Z O r2.lo) rfl rfl
 have s4:=DK15.out.at 1 4 (v:=Z O r2.hi) rfl rfl
 have s5:=DK15.out.at 1 5 (v:=Z O pil) rfl rfl
 have s6:=DK15.out.at 1 6 (v:=Z O boi) rfl rfl
 have s7:=DK15.out.at 1 7 (v:=Zl fa src.length fc) rfl rfl
 go_upto_region 8 with(go_at_call 93;go_must (refine(keep_old DK15.out.book ⟨code,r1,r2,pil,boi,src⟩ fa src.length fc HP.out HK.out rfl (DK15.out.book.froms _ (List.mem_of_getElem? HP.out)) HL1.out).mono ?_);rintro e w9 ⟨rfl,hb9,hk9⟩;have HB9:=Zh hb9;have HK9:=Zh hk9;clear hb9 hk9)
 clear s0 s1 s2 s3 s4 s5 s6 s7
 have HO9:=Zh (HB9.out.blk (DK15.out.loc 2 _ _ _ rfl).1 (DK15.out.far 2 rfl).2.2.1)
 have HC9:=Zh (HB9.out.blk (DK15.out.loc 3 _ _ _ rfl).1 (DK15.out.far 3 rfl).2.2.1)
 have s0:=(show w9.cell? ⟨gO,0,none⟩=some (Zs other)from HO9.out.at 0 _ rfl)
 have s1:=(show w9.cell? ⟨gO,1,none⟩=some (Z O p1.lo)from HO9.out.at 1 _ rfl)
 have s2:=(show w9.cell? ⟨gO,2,none⟩=some (Z O p1.hi)from HO9.out.at 2 _ rfl)
 have s3:=(show w9.cell? ⟨gO,3,none⟩=some (Z O p2.lo)from HO9.out.at 3 _ rfl)
 have s4:=(show w9.cell? ⟨gO,4,none⟩=some (Z O p2.hi)from HO9.out.at 4 _ rfl)
 have s5:=(show w9.cell? ⟨gO,5,none⟩=some (Z O pil)from HO9.out.at 5 _ rfl)
 have s6:=(show w9.cell? ⟨gO,6,none⟩=some (Z O boi)from HO9.out.at 6 _ rfl)
 have s7:=(show w9.cell? ⟨gO,7,none⟩=some (Zl (some ⟨gc,0,none⟩) src.length cc)from HO9.out.at 7 _ rfl)
 have HQ:=Zh (p:=w9.ownsRow 0 3 1 (Zl (some ⟨gc,0,none⟩) src.length cc) src.length (intCells src)) (by rw [← HCC.out.2.2.2];exact row_of_block (by simpa using HC9.out) HCC.out.1 HCC.out.2.1 HCC.out.2.2.1)
 have HN9:=Zh (p:=ixOf (l.set k ((⟨code,r1,r2,pil,boi,src⟩:Stk Code),Value.slice fa src.length fc)) other=none) ((ixOf_codes (codes_set (q:=((⟨code,r1,r2,pil,boi,src⟩:Stk Code),Value.slice fa src.length fc)) HP.out rfl) other).trans HN.out)
 have H89:=Zh (p:=(l.set k ((⟨code,r1,r2,pil,boi,src⟩:Stk Code),Value.slice fa src.length fc)).length<8) (by rw [List.length_set];exact H8.out)
 go_wp2_with (go_at_call 93;go_must (refine(keep_new HK9.out ⟨other,p1,p2,pil,boi,src⟩ (some ⟨gc,0,none⟩) src.length cc HSO.out HN9.out H89.out HQ.out HL1.out HNN.out).mono ?_);rintro e wa ⟨rfl,hba,kva,tva,hka⟩;have HBA:=Zh hba;have HKA:=Zh hka;clear hba hka)
 go_end0
 have zp1:=Ep1.out;have zp2:=Ep2.out;have zr1:=Er1.out;have zr2:=Er2.out
 subst zr2 zr1 zp2 zp1
 refine⟨rfl,((DK15.out.beside.mono (C1:=C) (fun _ f=>f.elim)).trans HB9.out (fun k hk=>.inl hk)).trans HBA.out (fun k hk=>.inl hk),_,kva,tva,?_,HKA.out.wide (fun k hk=>?_)⟩
 ·have hkl:=HKL.out
  rw [List.set_append_left _ _ (by simpa using hkl)]
  simp [List.map_set]
 ·rcases hk with hk | hk
  ·exact .inl hk
  ·refine .inr (Nat.le_trans (Nat.le_trans DK15.out.beside.size HB9.out.size) hk)
end Go.Proofs.Ytgekekhbhkgekaa
