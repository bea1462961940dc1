/- A deed: merge. -/
import Derived.Test.YtgekekhbhkgekaaRYMergeFacts
namespace Go.Proofs.Ytgekekhbhkgekaa
open Go Go.RowKit Yd
open _root_.Go.Value renaming int → Z, string → Zs, slice → Zl
open _root_.Go.IntKind renaming i64 → O
open _root_.Go.Lib renaming hid → Zh
open _root_.List renaming setIfInBounds_toArray → Za, set_cons_succ → Zb, set_cons_zero → Zc
open _root_.Nat renaming le_of_ble_eq_true → Zn
open _root_.Go renaming wpList_store_mid → Zw, cell_regrown → Zg, below_regrown → Zk
set_option maxRecDepth 100000
set_option maxHeartbeats 16000000
theorem merge_ok {w:World}{C:Nat→Prop}{B:Nat}{bef aft:Int}{l:List SRow}{c:Yd.Acc}{made:Int}{N:Nat}{kv tv:Value}{m:Nat}(h:Book w C B bef aft l c made N kv tv m)
  (kind day:Int) (code other:Code) (al ah bl bh:Int) (hs:code.size≤maxLen) (hC:∀ k,C k→k<w.heap.size) (dl dh wl wh pil boi:Int) (src:List Int) (fa:Option Addr) (fn fc:Nat) (V:Int) (hV:V≤2000000000000000) {k:Nat} (hk:ixOf l code=some k) (hp:l[k]? = some (⟨code,⟨dl,dh⟩,⟨wl,wh⟩,pil,boi,src⟩,Zl fa fn fc)) (dl2 dh2 wl2 wh2 pil2 boi2:Int) (src2:List Int) (fa2:Option Addr) (fn2 fc2:Nat) {k2:Nat} (hk2:ixOf l other=some k2) (hp2:l[k2]? = some (⟨other,⟨dl2,dh2⟩,⟨wl2,wh2⟩,pil2,boi2,src2⟩,Zl fa2 fn2 fc2)) (hso:other.size≤maxLen) (hne:other≠code) (hN:N+10≤1000000) (ud:Bd.Up ⟨dl,dh⟩ V) (uw:Bd.Up ⟨wl,wh⟩ V) (ud2:Bd.Up ⟨dl2,dh2⟩ V) (uw2:Bd.Up ⟨wl2,wh2⟩ V) (hb1 : -1≤boi∧boi≤2000) (hb2 : -1≤boi2∧boi2≤2000) (a1:Asc src) (a2:Asc src2) (n1:0<src.length) (n2:0<src2.length) (hl:(both src src2).length≤1000) :
  Calls Try.prog 89 #[.pointer (some ⟨B,0,none⟩),.agg #[Z O kind,Z O day,Zs code,Zs other,Z O al,Z O ah,Z O bl,Z O bh]] w (DeedDone w C B bef aft ((List.set (l.map (fun p:SRow=>p.1)) k (⟨code,Bd.add ⟨dl,dh⟩ ⟨dl2,dh2⟩,Bd.add ⟨wl,wh⟩ ⟨wl2,wh2⟩,max pil pil2,lastBoil boi boi2,both src src2⟩:Stk Code)).eraseIdx k2) c made (N+10) m):=by
 have HS:=Zh hs;have HK:=Zh hk;have HP:=Zh hp;have HSO:=Zh hso;have HK2:=Zh hk2;have HP2:=Zh hp2
 have HC:=Zh hC
 have HUD:=Zh ud;have HUW:=Zh uw;have HUD2:=Zh ud2;have HUW2:=Zh uw2;have HBO:=Zh hb1;have HBO2:=Zh hb2;have HA1:=Zh a1;have HA2:=Zh a2;have HN1:=Zh n1;have HN2:=Zh n2;have HN:=Zh hN;have HLB:=Zh hl
 have HV8:=Zh (p:=V≤8000000000000000) (Int.le_trans hV (by decide))
 have HL1:=Zh (h.fromsLen _ (List.mem_of_getElem? hp));have HL2:=Zh (h.fromsLen _ (List.mem_of_getElem? hp2))
 have HNE:=Zh (show k2≠k from fun e=>by
  subst e
  rw [hp]at hp2
  simp only [Option.some.injEq,Prod.mk.injEq,Stk.mk.injEq]at hp2
  exact hne hp2.1.1.symm)
 have HKL:=Zh (List.getElem?_eq_some_iff.1 hp).1
 have bne:(ByteArray.toList code == ByteArray.toList other)=false:=by rw [codes_beq];simpa using Ne.symm hne
 clear hs hk hp hso hk2 hp2 hne ud uw ud2 uw2 hb1 hb2 a1 a2 n1 n2 hN hl
 obtain⟨p1,hp1⟩:∃ b:Bd,b=Bd.add ⟨dl,dh⟩ ⟨dl2,dh2⟩:=⟨_,rfl⟩
 have Ep1:=Zh hp1;clear hp1
 obtain⟨p2,hp2⟩:∃ b:Bd,b=Bd.add ⟨wl,wh⟩ ⟨wl2,wh2⟩:=⟨_,rfl⟩
 have Ep2:=Zh hp2;clear hp2
 obtain⟨lb,hlb⟩:∃ b:Int,b=lastBoil boi boi2:=⟨_,rfl⟩
 have Elb:=Zh hlb;clear hlb
 have DK1:=Zh (boxed_deed h hC [Z O kind,Z O day,Zs code,Zs other,Z O al,Z O ah,Z O bl,Z O bh])
 go_enter Try.func89,Try.ntmps89
 go_upto_region 1 with fail
 generalize World.alloc _ _=w1 at DK1 ⊢
 obtain⟨gD,hgD⟩:∃ g,g=w.heap.size:=⟨_,rfl⟩
 rw [← hgD]at DK1 ⊢
 clear hgD
 go_cut [4,5]from 6 to 13 (fun u v wx => ∃ gS gO:Nat,u=.pointer (some ⟨gS,0,none⟩)∧v=.pointer (some ⟨gO,0,none⟩)∧Hid (Desk w wx (fun _=>False) C B bef aft l c made N kv tv m [(gD,55,[Z O kind,Z O day,Zs code,Zs other,Z O al,Z O ah,Z O bl,Z O bh]),(gS,49,[Zs code,Z O dl,Z O dh,Z O wl,Z O wh,Z O pil,Z O boi,Zl fa fn fc]),(gO,49,[Zs other,Z O dl2,Z O dh2,Z O wl2,Z O wh2,Z O pil2,Z O boi2,Zl fa2 fn2 fc2])]))
 case first =>
  refine region_till [11] (fun w'=>Blk w' gD 55 #[Z O kind,Z O day,Zs code,Zs other,Z O al,Z O ah,Z O bl,Z O bh]) 12 [false,false,false,false,false,false,false,false,false,false,false,false] (by kernel_rfl) rfl rfl ?_
  have MK1:=fun(W:World) (h:(fun w'=>Blk w' gD 55 #[Z O kind,Z O day,Zs code,Zs other,Z O al,Z O ah,Z O bl,Z O bh]) W)=>Zh h
  have DK2:=Zh (DK1.out.drew)
  clear DK1
  generalize w1.drew=v0 at DK2 ⊢
  have HT:=MK1 v0 ((DK2.out.loc 0 _ _ _ rfl).1)
  refine till_pure (i:=0) (v:=.pointer (some ⟨B,0,none⟩)) rfl rfl (by kernel_rfl) (fun _ _ _ h=>h) (yields_of rfl (fun w' _=>by simp [go_sem])) (fun _=>HT.out) ?_
  simp only [Za,Zb,Zc]
  refine till_pure (i:=1) (v:=.pointer (some ⟨gD,2,none⟩)) rfl rfl (by kernel_rfl) (fun _ _ _ h=>h) (yields_of rfl (fun w' _=>by simp [go_sem])) (fun _=>HT.out) ?_
  simp only [Za,Zb,Zc]
  refine till_load (i:=2) (v:=Zs code) rfl rfl (by kernel_rfl) (fun _ _ _ h=>h) (yields_of rfl (fun w' hw'=>by have hcx:=Blk.at hw' 2 (Zs code) rfl;simp [go_sem,hcx])) (fun _=>HT.out) ?_
  simp only [Za,Zb,Zc]
  refine till_pure (i:=4) (v:=.pointer (some ⟨B,0,none⟩)) rfl rfl (by kernel_rfl) (fun _ _ _ h=>h) (yields_of rfl (fun w' _=>by simp [go_sem])) (fun _=>HT.out) ?_
  simp only [Za,Zb,Zc]
  refine till_pure (i:=5) (v:=.pointer (some ⟨gD,3,none⟩)) rfl rfl (by kernel_rfl) (fun _ _ _ h=>h) (yields_of rfl (fun w' _=>by simp [go_sem])) (fun _=>HT.out) ?_
  simp only [Za,Zb,Zc]
  refine till_load (i:=6) (v:=Zs other) rfl rfl (by kernel_rfl) (fun _ _ _ h=>h) (yields_of rfl (fun w' hw'=>by have hcx:=Blk.at hw' 3 (Zs other) rfl;simp [go_sem,hcx])) (fun _=>HT.out) ?_
  simp only [Za,Zb,Zc]
  refine till_three (i:=3) (j:=8) (k:=9) (by kernel_rfl) rfl rfl rfl ?_ ?_ ?_
  ·go_wp2_with (go_at_call 94;refine(stack_yes DK2.out.book code HS.out HK.out HP.out).mono ?_;rintro e v1 ⟨rfl,hb⟩;have DK3:=Zh (DK2.out.below hb);clear hb)
   have HT:=MK1 v1 ((DK3.out.loc 0 _ _ _ rfl).1)
   refine⟨fun _=>HT.out,?_⟩
   try simp only [Za,Zb,Zc]
   refine till_three (i:=7) (j:=8) (k:=9) (by kernel_rfl) rfl rfl rfl ?_ ?_ ?_
   ·go_wp2_with (go_at_call 94;refine(stack_yes DK3.out.book other HSO.out HK2.out HP2.out).mono ?_;rintro e v2 ⟨rfl,hb⟩;have DK4:=Zh (DK3.out.below hb);clear hb)
    have HT:=MK1 v2 ((DK4.out.loc 0 _ _ _ rfl).1)
    refine⟨fun _=>HT.out,?_⟩
    try simp only [Za,Zb,Zc]
    refine till_two (i:=8) (j:=9) (by kernel_rfl) rfl rfl ?_ ?_
    ·go_wp2_with fail
     have DK5:=Zh (p:=Desk w (v2.alloc (.cells #[Zs ⟨#[]⟩,Z O 0,Z O 0,Z O 0,Z O 0,Z O 0,Z O 0,Zl none 0 0] 49)) (fun _=>False) C B bef aft l c made N kv tv m [(gD,55,[Z O kind,Z O day,Zs code,Zs other,Z O al,Z O ah,Z O bl,Z O bh]),(v2.heap.size,49,[Zs ⟨#[]⟩,Z O 0,Z O 0,Z O 0,Z O 0,Z O 0,Z O 0,Zl none 0 0])]) (DK4.out.alloc 49 [Zs ⟨#[]⟩,Z O 0,Z O 0,Z O 0,Z O 0,Z O 0,Z O 0,Zl none 0 0] rfl)
     generalize World.alloc _ _=v3 at DK5 ⊢
     generalize v2.heap.size=gS at DK5 ⊢
     have HT:=MK1 v3 ((DK5.out.loc 0 _ _ _ rfl).1)
     refine⟨fun _=>HT.out,?_⟩
     try simp only [Za,Zb,Zc]
     refine till_only (j:=9) (by kernel_rfl) rfl ?_
     go_wp2_with fail
     have DK6:=Zh (p:=Desk w (v3.alloc (.cells #[Zs ⟨#[]⟩,Z O 0,Z O 0,Z O 0,Z O 0,Z O 0,Z O 0,Zl none 0 0] 49)) (fun _=>False) C B bef aft l c made N kv tv m [(gD,55,[Z O kind,Z O day,Zs code,Zs other,Z O al,Z O ah,Z O bl,Z O bh]),(gS,49,[Zs ⟨#[]⟩,Z O 0,Z O 0,Z O 0,Z O 0,Z O 0,Z O 0,Zl none 0 0]),(v3.heap.size,49,[Zs ⟨#[]⟩,Z O 0,Z O 0,Z O 0,Z O 0,Z O 0,Z O 0,Zl none 0 0])]) (DK5.out.alloc 49 [Zs ⟨#[]⟩,Z O 0,Z O 0,Z O 0,Z O 0,Z O 0,Z O 0,Zl none 0 0] rfl)
     generalize World.alloc _ _=v4 at DK6 ⊢
     generalize v3.heap.size=gO at DK6 ⊢
     have HT:=MK1 v4 ((DK6.out.loc 0 _ _ _ rfl).1)
     refine⟨fun _=>HT.out,?_⟩
     try simp only [Za,Zb,Zc]
     refine till_only (j:=10) (by kernel_rfl) rfl ?_
     have HE:=Zh (p:=v4.there gS 0 8) ((DK6.out.loc 1 _ _ _ rfl).1.there (o:=0) (n:=8) (Zn rfl))
     refine Zw rfl 49 (.tmp 4) (.tmp 9) rfl gS 0 #[Zs code,Z O dl,Z O dh,Z O wl,Z O wh,Z O pil,Z O boi,Zl fa fn fc] rfl rfl HE.out size_stack (by simp [Value.oneCell']) ?_
     change wpList _ _ _ _ _ (v4.setCells gS 0 [Zs code,Z O dl,Z O dh,Z O wl,Z O wh,Z O pil,Z O boi,Zl fa fn fc])
     clear HE
     have DK7:=Zh (p:=Desk w (v4.setCells gS 0 [Zs code,Z O dl,Z O dh,Z O wl,Z O wh,Z O pil,Z O boi,Zl fa fn fc]) (fun _=>False) C B bef aft l c made N kv tv m [(gD,55,[Z O kind,Z O day,Zs code,Zs other,Z O al,Z O ah,Z O bl,Z O bh]),(gS,49,[Zs code,Z O dl,Z O dh,Z O wl,Z O wh,Z O pil,Z O boi,Zl fa fn fc]),(gO,49,[Zs ⟨#[]⟩,Z O 0,Z O 0,Z O 0,Z O 0,Z O 0,Z O 0,Zl none 0 0])]) (DK6.out.put 1 0 _ rfl)
     clear DK6
     generalize World.setCells _ _ _ _=v5 at DK7 ⊢
     change Till _ _ _ _∧wpAnyT _ _ _ _ _ _ _ _ _ _
     have HT:=MK1 v5 ((DK7.out.loc 0 _ _ _ rfl).1)
     refine⟨fun _=>HT.out,?_⟩
     try simp only [Za,Zb,Zc]
     refine till_only (j:=11) (by kernel_rfl) rfl ?_
     have HE:=Zh (p:=v5.there gO 0 8) ((DK7.out.loc 2 _ _ _ rfl).1.there (o:=0) (n:=8) (Zn rfl))
     refine Zw rfl 49 (.tmp 5) (.tmp 13) rfl gO 0 #[Zs other,Z O dl2,Z O dh2,Z O wl2,Z O wh2,Z O pil2,Z O boi2,Zl fa2 fn2 fc2] rfl rfl HE.out size_stack (by simp [Value.oneCell']) ?_
     change wpList _ _ _ _ _ (v5.setCells gO 0 [Zs other,Z O dl2,Z O dh2,Z O wl2,Z O wh2,Z O pil2,Z O boi2,Zl fa2 fn2 fc2])
     clear HE
     have DK8:=Zh (p:=Desk w (v5.setCells gO 0 [Zs other,Z O dl2,Z O dh2,Z O wl2,Z O wh2,Z O pil2,Z O boi2,Zl fa2 fn2 fc2]) (fun _=>False) C B bef aft l c made N kv tv m [(gD,55,[Z O kind,Z O day,Zs code,Zs other,Z O al,Z O ah,Z O bl,Z O bh]),(gS,49,[Zs code,Z O dl,Z O dh,Z O wl,Z O wh,Z O pil,Z O boi,Zl fa fn fc]),(gO,49,[Zs other,Z O dl2,Z O dh2,Z O wl2,Z O wh2,Z O pil2,Z O boi2,Zl fa2 fn2 fc2])]) (DK7.out.put 2 0 _ rfl)
     clear DK7
     generalize World.setCells _ _ _ _=v6 at DK8 ⊢
     change Till _ _ _ _∧wpAnyT _ _ _ _ _ _ _ _ _ _
     refine⟨fun h=>by simp at h,?_⟩
     try simp only [Za,Zb,Zc]
     refine till_done (by kernel_rfl) ?_
     go_wp2_with fail
     go_meet
     case rel=>exact⟨_,_,rfl,rfl,DK8⟩
    ·go_wp2_with fail
     have DK5:=Zh (p:=Desk w (v2.alloc (.cells #[Zs ⟨#[]⟩,Z O 0,Z O 0,Z O 0,Z O 0,Z O 0,Z O 0,Zl none 0 0] 49)) (fun _=>False) C B bef aft l c made N kv tv m [(gD,55,[Z O kind,Z O day,Zs code,Zs other,Z O al,Z O ah,Z O bl,Z O bh]),(v2.heap.size,49,[Zs ⟨#[]⟩,Z O 0,Z O 0,Z O 0,Z O 0,Z O 0,Z O 0,Zl none 0 0])]) (DK4.out.alloc 49 [Zs ⟨#[]⟩,Z O 0,Z O 0,Z O 0,Z O 0,Z O 0,Z O 0,Zl none 0 0] rfl)
     generalize World.alloc _ _=v3 at DK5 ⊢
     generalize v2.heap.size=gO at DK5 ⊢
     have HT:=MK1 v3 ((DK5.out.loc 0 _ _ _ rfl).1)
     refine⟨fun _=>HT.out,?_⟩
     try simp only [Za,Zb,Zc]
     refine till_only (j:=8) (by kernel_rfl) rfl ?_
     go_wp2_with fail
     have DK6:=Zh (p:=Desk w (v3.alloc (.cells #[Zs ⟨#[]⟩,Z O 0,Z O 0,Z O 0,Z O 0,Z O 0,Z O 0,Zl none 0 0] 49)) (fun _=>False) C B bef aft l c made N kv tv m [(gD,55,[Z O kind,Z O day,Zs code,Zs other,Z O al,Z O ah,Z O bl,Z O bh]),(gO,49,[Zs ⟨#[]⟩,Z O 0,Z O 0,Z O 0,Z O 0,Z O 0,Z O 0,Zl none 0 0]),(v3.heap.size,49,[Zs ⟨#[]⟩,Z O 0,Z O 0,Z O 0,Z O 0,Z O 0,Z O 0,Zl none 0 0])]) (DK5.out.alloc 49 [Zs ⟨#[]⟩,Z O 0,Z O 0,Z O 0,Z O 0,Z O 0,Z O 0,Zl none 0 0] rfl)
     generalize World.alloc _ _=v4 at DK6 ⊢
     generalize v3.heap.size=gS at DK6 ⊢
     have HT:=MK1 v4 ((DK6.out.loc 0 _ _ _ rfl).1)
     refine⟨fun _=>HT.out,?_⟩
     try simp only [Za,Zb,Zc]
     refine till_only (j:=10) (by kernel_rfl) rfl ?_
     have HE:=Zh (p:=v4.there gS 0 8) ((DK6.out.loc 2 _ _ _ rfl).1.there (o:=0) (n:=8) (Zn rfl))
     refine Zw rfl 49 (.tmp 4) (.tmp 9) rfl gS 0 #[Zs code,Z O dl,Z O dh,Z O wl,Z O wh,Z O pil,Z O boi,Zl fa fn fc] rfl rfl HE.out size_stack (by simp [Value.oneCell']) ?_
     change wpList _ _ _ _ _ (v4.setCells gS 0 [Zs code,Z O dl,Z O dh,Z O wl,Z O wh,Z O pil,Z O boi,Zl fa fn fc])
     clear HE
     have DK7:=Zh (p:=Desk w (v4.setCells gS 0 [Zs code,Z O dl,Z O dh,Z O wl,Z O wh,Z O pil,Z O boi,Zl fa fn fc]) (fun _=>False) C B bef aft l c made N kv tv m [(gD,55,[Z O kind,Z O day,Zs code,Zs other,Z O al,Z O ah,Z O bl,Z O bh]),(gO,49,[Zs ⟨#[]⟩,Z O 0,Z O 0,Z O 0,Z O 0,Z O 0,Z O 0,Zl none 0 0]),(gS,49,[Zs code,Z O dl,Z O dh,Z O wl,Z O wh,Z O pil,Z O boi,Zl fa fn fc])]) (DK6.out.put 2 0 _ rfl)
     clear DK6
     generalize World.setCells _ _ _ _=v5 at DK7 ⊢
     change Till _ _ _ _∧wpAnyT _ _ _ _ _ _ _ _ _ _
     have HT:=MK1 v5 ((DK7.out.loc 0 _ _ _ rfl).1)
     refine⟨fun _=>HT.out,?_⟩
     try simp only [Za,Zb,Zc]
     refine till_only (j:=11) (by kernel_rfl) rfl ?_
     have HE:=Zh (p:=v5.there gO 0 8) ((DK7.out.loc 1 _ _ _ rfl).1.there (o:=0) (n:=8) (Zn rfl))
     refine Zw rfl 49 (.tmp 5) (.tmp 13) rfl gO 0 #[Zs other,Z O dl2,Z O dh2,Z O wl2,Z O wh2,Z O pil2,Z O boi2,Zl fa2 fn2 fc2] rfl rfl HE.out size_stack (by simp [Value.oneCell']) ?_
     change wpList _ _ _ _ _ (v5.setCells gO 0 [Zs other,Z O dl2,Z O dh2,Z O wl2,Z O wh2,Z O pil2,Z O boi2,Zl fa2 fn2 fc2])
     clear HE
     have DK8:=Zh (p:=Desk w (v5.setCells gO 0 [Zs other,Z O dl2,Z O dh2,Z O wl2,Z O wh2,Z O pil2,Z O boi2,Zl fa2 fn2 fc2]) (fun _=>False) C B bef aft l c made N kv tv m [(gD,55,[Z O kind,Z O day,Zs code,Zs other,Z O al,Z O ah,Z O bl,Z O bh]),(gO,49,[Zs other,Z O dl2,Z O dh2,Z O wl2,Z O wh2,Z O pil2,Z O boi2,Zl fa2 fn2 fc2]),(gS,49,[Zs code,Z O dl,Z O dh,Z O wl,Z O wh,Z O pil,Z O boi,Zl fa fn fc])]) (DK7.out.put 1 0 _ rfl)
     clear DK7
     generalize World.setCells _ _ _ _=v6 at DK8 ⊢
     change Till _ _ _ _∧wpAnyT _ _ _ _ _ _ _ _ _ _
     refine⟨fun h=>by simp at h,?_⟩
     try simp only [Za,Zb,Zc]
     refine till_done (by kernel_rfl) ?_
     go_wp2_with fail
     go_meet
     case rel=>exact⟨_,_,rfl,rfl,Zh DK8.out.swap⟩
   ·go_wp2_with fail
    have DK4:=Zh (p:=Desk w (v1.alloc (.cells #[Zs ⟨#[]⟩,Z O 0,Z O 0,Z O 0,Z O 0,Z O 0,Z O 0,Zl none 0 0] 49)) (fun _=>False) C B bef aft l c made N kv tv m [(gD,55,[Z O kind,Z O day,Zs code,Zs other,Z O al,Z O ah,Z O bl,Z O bh]),(v1.heap.size,49,[Zs ⟨#[]⟩,Z O 0,Z O 0,Z O 0,Z O 0,Z O 0,Z O 0,Zl none 0 0])]) (DK3.out.alloc 49 [Zs ⟨#[]⟩,Z O 0,Z O 0,Z O 0,Z O 0,Z O 0,Z O 0,Zl none 0 0] rfl)
    generalize World.alloc _ _=v2 at DK4 ⊢
    generalize v1.heap.size=gS at DK4 ⊢
    have HT:=MK1 v2 ((DK4.out.loc 0 _ _ _ rfl).1)
    refine⟨fun _=>HT.out,?_⟩
    try simp only [Za,Zb,Zc]
    refine till_two (i:=7) (j:=9) (by kernel_rfl) rfl rfl ?_ ?_
    ·go_wp2_with (go_at_call 94;refine(stack_yes DK4.out.book other HSO.out HK2.out HP2.out).mono ?_;rintro e v3 ⟨rfl,hb⟩;have DK5:=Zh (DK4.out.below hb);clear hb)
     have HT:=MK1 v3 ((DK5.out.loc 0 _ _ _ rfl).1)
     refine⟨fun _=>HT.out,?_⟩
     try simp only [Za,Zb,Zc]
     refine till_only (j:=9) (by kernel_rfl) rfl ?_
     go_wp2_with fail
     have DK6:=Zh (p:=Desk w (v3.alloc (.cells #[Zs ⟨#[]⟩,Z O 0,Z O 0,Z O 0,Z O 0,Z O 0,Z O 0,Zl none 0 0] 49)) (fun _=>False) C B bef aft l c made N kv tv m [(gD,55,[Z O kind,Z O day,Zs code,Zs other,Z O al,Z O ah,Z O bl,Z O bh]),(gS,49,[Zs ⟨#[]⟩,Z O 0,Z O 0,Z O 0,Z O 0,Z O 0,Z O 0,Zl none 0 0]),(v3.heap.size,49,[Zs ⟨#[]⟩,Z O 0,Z O 0,Z O 0,Z O 0,Z O 0,Z O 0,Zl none 0 0])]) (DK5.out.alloc 49 [Zs ⟨#[]⟩,Z O 0,Z O 0,Z O 0,Z O 0,Z O 0,Z O 0,Zl none 0 0] rfl)
     generalize World.alloc _ _=v4 at DK6 ⊢
     generalize v3.heap.size=gO at DK6 ⊢
     have HT:=MK1 v4 ((DK6.out.loc 0 _ _ _ rfl).1)
     refine⟨fun _=>HT.out,?_⟩
     try simp only [Za,Zb,Zc]
     refine till_only (j:=10) (by kernel_rfl) rfl ?_
     have HE:=Zh (p:=v4.there gS 0 8) ((DK6.out.loc 1 _ _ _ rfl).1.there (o:=0) (n:=8) (Zn rfl))
     refine Zw rfl 49 (.tmp 4) (.tmp 9) rfl gS 0 #[Zs code,Z O dl,Z O dh,Z O wl,Z O wh,Z O pil,Z O boi,Zl fa fn fc] rfl rfl HE.out size_stack (by simp [Value.oneCell']) ?_
     change wpList _ _ _ _ _ (v4.setCells gS 0 [Zs code,Z O dl,Z O dh,Z O wl,Z O wh,Z O pil,Z O boi,Zl fa fn fc])
     clear HE
     have DK7:=Zh (p:=Desk w (v4.setCells gS 0 [Zs code,Z O dl,Z O dh,Z O wl,Z O wh,Z O pil,Z O boi,Zl fa fn fc]) (fun _=>False) C B bef aft l c made N kv tv m [(gD,55,[Z O kind,Z O day,Zs code,Zs other,Z O al,Z O ah,Z O bl,Z O bh]),(gS,49,[Zs code,Z O dl,Z O dh,Z O wl,Z O wh,Z O pil,Z O boi,Zl fa fn fc]),(gO,49,[Zs ⟨#[]⟩,Z O 0,Z O 0,Z O 0,Z O 0,Z O 0,Z O 0,Zl none 0 0])]) (DK6.out.put 1 0 _ rfl)
     clear DK6
     generalize World.setCells _ _ _ _=v5 at DK7 ⊢
     change Till _ _ _ _∧wpAnyT _ _ _ _ _ _ _ _ _ _
     have HT:=MK1 v5 ((DK7.out.loc 0 _ _ _ rfl).1)
     refine⟨fun _=>HT.out,?_⟩
     try simp only [Za,Zb,Zc]
     refine till_only (j:=11) (by kernel_rfl) rfl ?_
     have HE:=Zh (p:=v5.there gO 0 8) ((DK7.out.loc 2 _ _ _ rfl).1.there (o:=0) (n:=8) (Zn rfl))
     refine Zw rfl 49 (.tmp 5) (.tmp 13) rfl gO 0 #[Zs other,Z O dl2,Z O dh2,Z O wl2,Z O wh2,Z O pil2,Z O boi2,Zl fa2 fn2 fc2] rfl rfl HE.out size_stack (by simp [Value.oneCell']) ?_
     change wpList _ _ _ _ _ (v5.setCells gO 0 [Zs other,Z O dl2,Z O dh2,Z O wl2,Z O wh2,Z O pil2,Z O boi2,Zl fa2 fn2 fc2])
     clear HE
     have DK8:=Zh (p:=Desk w (v5.setCells gO 0 [Zs other,Z O dl2,Z O dh2,Z O wl2,Z O wh2,Z O pil2,Z O boi2,Zl fa2 fn2 fc2]) (fun _=>False) C B bef aft l c made N kv tv m [(gD,55,[Z O kind,Z O day,Zs code,Zs other,Z O al,Z O ah,Z O bl,Z O bh]),(gS,49,[Zs code,Z O dl,Z O dh,Z O wl,Z O wh,Z O pil,Z O boi,Zl fa fn fc]),(gO,49,[Zs other,Z O dl2,Z O dh2,Z O wl2,Z O wh2,Z O pil2,Z O boi2,Zl fa2 fn2 fc2])]) (DK7.out.put 2 0 _ rfl)
     clear DK7
     generalize World.setCells _ _ _ _=v6 at DK8 ⊢
     change Till _ _ _ _∧wpAnyT _ _ _ _ _ _ _ _ _ _
     refine⟨fun h=>by simp at h,?_⟩
     try simp only [Za,Zb,Zc]
     refine till_done (by kernel_rfl) ?_
     go_wp2_with fail
     go_meet
     case rel=>exact⟨_,_,rfl,rfl,DK8⟩
    ·go_wp2_with fail
     have DK5:=Zh (p:=Desk w (v2.alloc (.cells #[Zs ⟨#[]⟩,Z O 0,Z O 0,Z O 0,Z O 0,Z O 0,Z O 0,Zl none 0 0] 49)) (fun _=>False) C B bef aft l c made N kv tv m [(gD,55,[Z O kind,Z O day,Zs code,Zs other,Z O al,Z O ah,Z O bl,Z O bh]),(gS,49,[Zs ⟨#[]⟩,Z O 0,Z O 0,Z O 0,Z O 0,Z O 0,Z O 0,Zl none 0 0]),(v2.heap.size,49,[Zs ⟨#[]⟩,Z O 0,Z O 0,Z O 0,Z O 0,Z O 0,Z O 0,Zl none 0 0])]) (DK4.out.alloc 49 [Zs ⟨#[]⟩,Z O 0,Z O 0,Z O 0,Z O 0,Z O 0,Z O 0,Zl none 0 0] rfl)
     generalize World.alloc _ _=v3 at DK5 ⊢
     generalize v2.heap.size=gO at DK5 ⊢
     have HT:=MK1 v3 ((DK5.out.loc 0 _ _ _ rfl).1)
     refine⟨fun _=>HT.out,?_⟩
     try simp only [Za,Zb,Zc]
     refine till_only (j:=7) (by kernel_rfl) rfl ?_
     go_wp2_with (go_at_call 94;refine(stack_yes DK5.out.book other HSO.out HK2.out HP2.out).mono ?_;rintro e v4 ⟨rfl,hb⟩;have DK6:=Zh (DK5.out.below hb);clear hb)
     have HT:=MK1 v4 ((DK6.out.loc 0 _ _ _ rfl).1)
     refine⟨fun _=>HT.out,?_⟩
     try simp only [Za,Zb,Zc]
     refine till_only (j:=10) (by kernel_rfl) rfl ?_
     have HE:=Zh (p:=v4.there gS 0 8) ((DK6.out.loc 1 _ _ _ rfl).1.there (o:=0) (n:=8) (Zn rfl))
     refine Zw rfl 49 (.tmp 4) (.tmp 9) rfl gS 0 #[Zs code,Z O dl,Z O dh,Z O wl,Z O wh,Z O pil,Z O boi,Zl fa fn fc] rfl rfl HE.out size_stack (by simp [Value.oneCell']) ?_
     change wpList _ _ _ _ _ (v4.setCells gS 0 [Zs code,Z O dl,Z O dh,Z O wl,Z O wh,Z O pil,Z O boi,Zl fa fn fc])
     clear HE
     have DK7:=Zh (p:=Desk w (v4.setCells gS 0 [Zs code,Z O dl,Z O dh,Z O wl,Z O wh,Z O pil,Z O boi,Zl fa fn fc]) (fun _=>False) C B bef aft l c made N kv tv m [(gD,55,[Z O kind,Z O day,Zs code,Zs other,Z O al,Z O ah,Z O bl,Z O bh]),(gS,49,[Zs code,Z O dl,Z O dh,Z O wl,Z O wh,Z O pil,Z O boi,Zl fa fn fc]),(gO,49,[Zs ⟨#[]⟩,Z O 0,Z O 0,Z O 0,Z O 0,Z O 0,Z O 0,Zl none 0 0])]) (DK6.out.put 1 0 _ rfl)
     clear DK6
     generalize World.setCells _ _ _ _=v5 at DK7 ⊢
     change Till _ _ _ _∧wpAnyT _ _ _ _ _ _ _ _ _ _
     have HT:=MK1 v5 ((DK7.out.loc 0 _ _ _ rfl).1)
     refine⟨fun _=>HT.out,?_⟩
     try simp only [Za,Zb,Zc]
     refine till_only (j:=11) (by kernel_rfl) rfl ?_
     have HE:=Zh (p:=v5.there gO 0 8) ((DK7.out.loc 2 _ _ _ rfl).1.there (o:=0) (n:=8) (Zn rfl))
     refine Zw rfl 49 (.tmp 5) (.tmp 13) rfl gO 0 #[Zs other,Z O dl2,Z O dh2,Z O wl2,Z O wh2,Z O pil2,Z O boi2,Zl fa2 fn2 fc2] rfl rfl HE.out size_stack (by simp [Value.oneCell']) ?_
     change wpList _ _ _ _ _ (v5.setCells gO 0 [Zs other,Z O dl2,Z O dh2,Z O wl2,Z O wh2,Z O pil2,Z O boi2,Zl fa2 fn2 fc2])
     clear HE
     have DK8:=Zh (p:=Desk w (v5.setCells gO 0 [Zs other,Z O dl2,Z O dh2,Z O wl2,Z O wh2,Z O pil2,Z O boi2,Zl fa2 fn2 fc2]) (fun _=>False) C B bef aft l c made N kv tv m [(gD,55,[Z O kind,Z O day,Zs code,Zs other,Z O al,Z O ah,Z O bl,Z O bh]),(gS,49,[Zs code,Z O dl,Z O dh,Z O wl,Z O wh,Z O pil,Z O boi,Zl fa fn fc]),(gO,49,[Zs other,Z O dl2,Z O dh2,Z O wl2,Z O wh2,Z O pil2,Z O boi2,Zl fa2 fn2 fc2])]) (DK7.out.put 2 0 _ rfl)
     clear DK7
     generalize World.setCells _ _ _ _=v6 at DK8 ⊢
     change Till _ _ _ _∧wpAnyT _ _ _ _ _ _ _ _ _ _
     refine⟨fun h=>by simp at h,?_⟩
     try simp only [Za,Zb,Zc]
     refine till_done (by kernel_rfl) ?_
     go_wp2_with fail
     go_meet
     case rel=>exact⟨_,_,rfl,rfl,DK8⟩
   ·go_wp2_with fail
    have DK4:=Zh (p:=Desk w (v1.alloc (.cells #[Zs ⟨#[]⟩,Z O 0,Z O 0,Z O 0,Z O 0,Z O 0,Z O 0,Zl none 0 0] 49)) (fun _=>False) C B bef aft l c made N kv tv m [(gD,55,[Z O kind,Z O day,Zs code,Zs other,Z O al,Z O ah,Z O bl,Z O bh]),(v1.heap.size,49,[Zs ⟨#[]⟩,Z O 0,Z O 0,Z O 0,Z O 0,Z O 0,Z O 0,Zl none 0 0])]) (DK3.out.alloc 49 [Zs ⟨#[]⟩,Z O 0,Z O 0,Z O 0,Z O 0,Z O 0,Z O 0,Zl none 0 0] rfl)
    generalize World.alloc _ _=v2 at DK4 ⊢
    generalize v1.heap.size=gO at DK4 ⊢
    have HT:=MK1 v2 ((DK4.out.loc 0 _ _ _ rfl).1)
    refine⟨fun _=>HT.out,?_⟩
    try simp only [Za,Zb,Zc]
    refine till_two (i:=7) (j:=8) (by kernel_rfl) rfl rfl ?_ ?_
    ·go_wp2_with (go_at_call 94;refine(stack_yes DK4.out.book other HSO.out HK2.out HP2.out).mono ?_;rintro e v3 ⟨rfl,hb⟩;have DK5:=Zh (DK4.out.below hb);clear hb)
     have HT:=MK1 v3 ((DK5.out.loc 0 _ _ _ rfl).1)
     refine⟨fun _=>HT.out,?_⟩
     try simp only [Za,Zb,Zc]
     refine till_only (j:=8) (by kernel_rfl) rfl ?_
     go_wp2_with fail
     have DK6:=Zh (p:=Desk w (v3.alloc (.cells #[Zs ⟨#[]⟩,Z O 0,Z O 0,Z O 0,Z O 0,Z O 0,Z O 0,Zl none 0 0] 49)) (fun _=>False) C B bef aft l c made N kv tv m [(gD,55,[Z O kind,Z O day,Zs code,Zs other,Z O al,Z O ah,Z O bl,Z O bh]),(gO,49,[Zs ⟨#[]⟩,Z O 0,Z O 0,Z O 0,Z O 0,Z O 0,Z O 0,Zl none 0 0]),(v3.heap.size,49,[Zs ⟨#[]⟩,Z O 0,Z O 0,Z O 0,Z O 0,Z O 0,Z O 0,Zl none 0 0])]) (DK5.out.alloc 49 [Zs ⟨#[]⟩,Z O 0,Z O 0,Z O 0,Z O 0,Z O 0,Z O 0,Zl none 0 0] rfl)
     generalize World.alloc _ _=v4 at DK6 ⊢
     generalize v3.heap.size=gS at DK6 ⊢
     have HT:=MK1 v4 ((DK6.out.loc 0 _ _ _ rfl).1)
     refine⟨fun _=>HT.out,?_⟩
     try simp only [Za,Zb,Zc]
     refine till_only (j:=10) (by kernel_rfl) rfl ?_
     have HE:=Zh (p:=v4.there gS 0 8) ((DK6.out.loc 2 _ _ _ rfl).1.there (o:=0) (n:=8) (Zn rfl))
     refine Zw rfl 49 (.tmp 4) (.tmp 9) rfl gS 0 #[Zs code,Z O dl,Z O dh,Z O wl,Z O wh,Z O pil,Z O boi,Zl fa fn fc] rfl rfl HE.out size_stack (by simp [Value.oneCell']) ?_
     change wpList _ _ _ _ _ (v4.setCells gS 0 [Zs code,Z O dl,Z O dh,Z O wl,Z O wh,Z O pil,Z O boi,Zl fa fn fc])
     clear HE
     have DK7:=Zh (p:=Desk w (v4.setCells gS 0 [Zs code,Z O dl,Z O dh,Z O wl,Z O wh,Z O pil,Z O boi,Zl fa fn fc]) (fun _=>False) C B bef aft l c made N kv tv m [(gD,55,[Z O kind,Z O day,Zs code,Zs other,Z O al,Z O ah,Z O bl,Z O bh]),(gO,49,[Zs ⟨#[]⟩,Z O 0,Z O 0,Z O 0,Z O 0,Z O 0,Z O 0,Zl none 0 0]),(gS,49,[Zs code,Z O dl,Z O dh,Z O wl,Z O wh,Z O pil,Z O boi,Zl fa fn fc])]) (DK6.out.put 2 0 _ rfl)
     clear DK6
     generalize World.setCells _ _ _ _=v5 at DK7 ⊢
     change Till _ _ _ _∧wpAnyT _ _ _ _ _ _ _ _ _ _
     have HT:=MK1 v5 ((DK7.out.loc 0 _ _ _ rfl).1)
     refine⟨fun _=>HT.out,?_⟩
     try simp only [Za,Zb,Zc]
     refine till_only (j:=11) (by kernel_rfl) rfl ?_
     have HE:=Zh (p:=v5.there gO 0 8) ((DK7.out.loc 1 _ _ _ rfl).1.there (o:=0) (n:=8) (Zn rfl))
     refine Zw rfl 49 (.tmp 5) (.tmp 13) rfl gO 0 #[Zs other,Z O dl2,Z O dh2,Z O wl2,Z O wh2,Z O pil2,Z O boi2,Zl fa2 fn2 fc2] rfl rfl HE.out size_stack (by simp [Value.oneCell']) ?_
     change wpList _ _ _ _ _ (v5.setCells gO 0 [Zs other,Z O dl2,Z O dh2,Z O wl2,Z O wh2,Z O pil2,Z O boi2,Zl fa2 fn2 fc2])
     clear HE
     have DK8:=Zh (p:=Desk w (v5.setCells gO 0 [Zs other,Z O dl2,Z O dh2,Z O wl2,Z O wh2,Z O pil2,Z O boi2,Zl fa2 fn2 fc2]) (fun _=>False) C B bef aft l c made N kv tv m [(gD,55,[Z O kind,Z O day,Zs code,Zs other,Z O al,Z O ah,Z O bl,Z O bh]),(gO,49,[Zs other,Z O dl2,Z O dh2,Z O wl2,Z O wh2,Z O pil2,Z O boi2,Zl fa2 fn2 fc2]),(gS,49,[Zs code,Z O dl,Z O dh,Z O wl,Z O wh,Z O pil,Z O boi,Zl fa fn fc])]) (DK7.out.put 1 0 _ rfl)
     clear DK7
     generalize World.setCells _ _ _ _=v6 at DK8 ⊢
     change Till _ _ _ _∧wpAnyT _ _ _ _ _ _ _ _ _ _
     refine⟨fun h=>by simp at h,?_⟩
     try simp only [Za,Zb,Zc]
     refine till_done (by kernel_rfl) ?_
     go_wp2_with fail
     go_meet
     case rel=>exact⟨_,_,rfl,rfl,Zh DK8.out.swap⟩
    ·go_wp2_with fail
     have DK5:=Zh (p:=Desk w (v2.alloc (.cells #[Zs ⟨#[]⟩,Z O 0,Z O 0,Z O 0,Z O 0,Z O 0,Z O 0,Zl none 0 0] 49)) (fun _=>False) C B bef aft l c made N kv tv m [(gD,55,[Z O kind,Z O day,Zs code,Zs other,Z O al,Z O ah,Z O bl,Z O bh]),(gO,49,[Zs ⟨#[]⟩,Z O 0,Z O 0,Z O 0,Z O 0,Z O 0,Z O 0,Zl none 0 0]),(v2.heap.size,49,[Zs ⟨#[]⟩,Z O 0,Z O 0,Z O 0,Z O 0,Z O 0,Z O 0,Zl none 0 0])]) (DK4.out.alloc 49 [Zs ⟨#[]⟩,Z O 0,Z O 0,Z O 0,Z O 0,Z O 0,Z O 0,Zl none 0 0] rfl)
     generalize World.alloc _ _=v3 at DK5 ⊢
     generalize v2.heap.size=gS at DK5 ⊢
     have HT:=MK1 v3 ((DK5.out.loc 0 _ _ _ rfl).1)
     refine⟨fun _=>HT.out,?_⟩
     try simp only [Za,Zb,Zc]
     refine till_only (j:=7) (by kernel_rfl) rfl ?_
     go_wp2_with (go_at_call 94;refine(stack_yes DK5.out.book other HSO.out HK2.out HP2.out).mono ?_;rintro e v4 ⟨rfl,hb⟩;have DK6:=Zh (DK5.out.below hb);clear hb)
     have HT:=MK1 v4 ((DK6.out.loc 0 _ _ _ rfl).1)
     refine⟨fun _=>HT.out,?_⟩
     try simp only [Za,Zb,Zc]
     refine till_only (j:=10) (by kernel_rfl) rfl ?_
     have HE:=Zh (p:=v4.there gS 0 8) ((DK6.out.loc 2 _ _ _ rfl).1.there (o:=0) (n:=8) (Zn rfl))
     refine Zw rfl 49 (.tmp 4) (.tmp 9) rfl gS 0 #[Zs code,Z O dl,Z O dh,Z O wl,Z O wh,Z O pil,Z O boi,Zl fa fn fc] rfl rfl HE.out size_stack (by simp [Value.oneCell']) ?_
     change wpList _ _ _ _ _ (v4.setCells gS 0 [Zs code,Z O dl,Z O dh,Z O wl,Z O wh,Z O pil,Z O boi,Zl fa fn fc])
     clear HE
     have DK7:=Zh (p:=Desk w (v4.setCells gS 0 [Zs code,Z O dl,Z O dh,Z O wl,Z O wh,Z O pil,Z O boi,Zl fa fn fc]) (fun _=>False) C B bef aft l c made N kv tv m [(gD,55,[Z O kind,Z O day,Zs code,Zs other,Z O al,Z O ah,Z O bl,Z O bh]),(gO,49,[Zs ⟨#[]⟩,Z O 0,Z O 0,Z O 0,Z O 0,Z O 0,Z O 0,Zl none 0 0]),(gS,49,[Zs code,Z O dl,Z O dh,Z O wl,Z O wh,Z O pil,Z O boi,Zl fa fn fc])]) (DK6.out.put 2 0 _ rfl)
     clear DK6
     generalize World.setCells _ _ _ _=v5 at DK7 ⊢
     change Till _ _ _ _∧wpAnyT _ _ _ _ _ _ _ _ _ _
     have HT:=MK1 v5 ((DK7.out.loc 0 _ _ _ rfl).1)
     refine⟨fun _=>HT.out,?_⟩
     try simp only [Za,Zb,Zc]
     refine till_only (j:=11) (by kernel_rfl) rfl ?_
     have HE:=Zh (p:=v5.there gO 0 8) ((DK7.out.loc 1 _ _ _ rfl).1.there (o:=0) (n:=8) (Zn rfl))
     refine Zw rfl 49 (.tmp 5) (.tmp 13) rfl gO 0 #[Zs other,Z O dl2,Z O dh2,Z O wl2,Z O wh2,Z O pil2,Z O boi2,Zl fa2 fn2 fc2] rfl rfl HE.out size_stack (by simp [Value.oneCell']) ?_
     change wpList _ _ _ _ _ (v5.setCells gO 0 [Zs other,Z O dl2,Z O dh2,Z O wl2,Z O wh2,Z O pil2,Z O boi2,Zl fa2 fn2 fc2])
     clear HE
     have DK8:=Zh (p:=Desk w (v5.setCells gO 0 [Zs other,Z O dl2,Z O dh2,Z O wl2,Z O wh2,Z O pil2,Z O boi2,Zl fa2 fn2 fc2]) (fun _=>False) C B bef aft l c made N kv tv m [(gD,55,[Z O kind,Z O day,Zs code,Zs other,Z O al,Z O ah,Z O bl,Z O bh]),(gO,49,[Zs other,Z O dl2,Z O dh2,Z O wl2,Z O wh2,Z O pil2,Z O boi2,Zl fa2 fn2 fc2]),(gS,49,[Zs code,Z O dl,Z O dh,Z O wl,Z O wh,Z O pil,Z O boi,Zl fa fn fc])]) (DK7.out.put 1 0 _ rfl)
     clear DK7
     generalize World.setCells _ _ _ _=v6 at DK8 ⊢
     change Till _ _ _ _∧wpAnyT _ _ _ _ _ _ _ _ _ _
     refine⟨fun h=>by simp at h,?_⟩
     try simp only [Za,Zb,Zc]
     refine till_done (by kernel_rfl) ?_
     go_wp2_with fail
     go_meet
     case rel=>exact⟨_,_,rfl,rfl,Zh DK8.out.swap⟩
  ·go_wp2_with fail
   have DK3:=Zh (p:=Desk w (v0.alloc (.cells #[Zs ⟨#[]⟩,Z O 0,Z O 0,Z O 0,Z O 0,Z O 0,Z O 0,Zl none 0 0] 49)) (fun _=>False) C B bef aft l c made N kv tv m [(gD,55,[Z O kind,Z O day,Zs code,Zs other,Z O al,Z O ah,Z O bl,Z O bh]),(v0.heap.size,49,[Zs ⟨#[]⟩,Z O 0,Z O 0,Z O 0,Z O 0,Z O 0,Z O 0,Zl none 0 0])]) (DK2.out.alloc 49 [Zs ⟨#[]⟩,Z O 0,Z O 0,Z O 0,Z O 0,Z O 0,Z O 0,Zl none 0 0] rfl)
   generalize World.alloc _ _=v1 at DK3 ⊢
   generalize v0.heap.size=gS at DK3 ⊢
   have HT:=MK1 v1 ((DK3.out.loc 0 _ _ _ rfl).1)
   refine⟨fun _=>HT.out,?_⟩
   try simp only [Za,Zb,Zc]
   refine till_two (i:=3) (j:=9) (by kernel_rfl) rfl rfl ?_ ?_
   ·go_wp2_with (go_at_call 94;refine(stack_yes DK3.out.book code HS.out HK.out HP.out).mono ?_;rintro e v2 ⟨rfl,hb⟩;have DK4:=Zh (DK3.out.below hb);clear hb)
    have HT:=MK1 v2 ((DK4.out.loc 0 _ _ _ rfl).1)
    refine⟨fun _=>HT.out,?_⟩
    try simp only [Za,Zb,Zc]
    refine till_two (i:=7) (j:=9) (by kernel_rfl) rfl rfl ?_ ?_
    ·go_wp2_with (go_at_call 94;refine(stack_yes DK4.out.book other HSO.out HK2.out HP2.out).mono ?_;rintro e v3 ⟨rfl,hb⟩;have DK5:=Zh (DK4.out.below hb);clear hb)
     have HT:=MK1 v3 ((DK5.out.loc 0 _ _ _ rfl).1)
     refine⟨fun _=>HT.out,?_⟩
     try simp only [Za,Zb,Zc]
     refine till_only (j:=9) (by kernel_rfl) rfl ?_
     go_wp2_with fail
     have DK6:=Zh (p:=Desk w (v3.alloc (.cells #[Zs ⟨#[]⟩,Z O 0,Z O 0,Z O 0,Z O 0,Z O 0,Z O 0,Zl none 0 0] 49)) (fun _=>False) C B bef aft l c made N kv tv m [(gD,55,[Z O kind,Z O day,Zs code,Zs other,Z O al,Z O ah,Z O bl,Z O bh]),(gS,49,[Zs ⟨#[]⟩,Z O 0,Z O 0,Z O 0,Z O 0,Z O 0,Z O 0,Zl none 0 0]),(v3.heap.size,49,[Zs ⟨#[]⟩,Z O 0,Z O 0,Z O 0,Z O 0,Z O 0,Z O 0,Zl none 0 0])]) (DK5.out.alloc 49 [Zs ⟨#[]⟩,Z O 0,Z O 0,Z O 0,Z O 0,Z O 0,Z O 0,Zl none 0 0] rfl)
     generalize World.alloc _ _=v4 at DK6 ⊢
     generalize v3.heap.size=gO at DK6 ⊢
     have HT:=MK1 v4 ((DK6.out.loc 0 _ _ _ rfl).1)
     refine⟨fun _=>HT.out,?_⟩
     try simp only [Za,Zb,Zc]
     refine till_only (j:=10) (by kernel_rfl) rfl ?_
     have HE:=Zh (p:=v4.there gS 0 8) ((DK6.out.loc 1 _ _ _ rfl).1.there (o:=0) (n:=8) (Zn rfl))
     refine Zw rfl 49 (.tmp 4) (.tmp 9) rfl gS 0 #[Zs code,Z O dl,Z O dh,Z O wl,Z O wh,Z O pil,Z O boi,Zl fa fn fc] rfl rfl HE.out size_stack (by simp [Value.oneCell']) ?_
     change wpList _ _ _ _ _ (v4.setCells gS 0 [Zs code,Z O dl,Z O dh,Z O wl,Z O wh,Z O pil,Z O boi,Zl fa fn fc])
     clear HE
     have DK7:=Zh (p:=Desk w (v4.setCells gS 0 [Zs code,Z O dl,Z O dh,Z O wl,Z O wh,Z O pil,Z O boi,Zl fa fn fc]) (fun _=>False) C B bef aft l c made N kv tv m [(gD,55,[Z O kind,Z O day,Zs code,Zs other,Z O al,Z O ah,Z O bl,Z O bh]),(gS,49,[Zs code,Z O dl,Z O dh,Z O wl,Z O wh,Z O pil,Z O boi,Zl fa fn fc]),(gO,49,[Zs ⟨#[]⟩,Z O 0,Z O 0,Z O 0,Z O 0,Z O 0,Z O 0,Zl none 0 0])]) (DK6.out.put 1 0 _ rfl)
     clear DK6
     generalize World.setCells _ _ _ _=v5 at DK7 ⊢
     change Till _ _ _ _∧wpAnyT _ _ _ _ _ _ _ _ _ _
     have HT:=MK1 v5 ((DK7.out.loc 0 _ _ _ rfl).1)
     refine⟨fun _=>HT.out,?_⟩
     try simp only [Za,Zb,Zc]
     refine till_only (j:=11) (by kernel_rfl) rfl ?_
     have HE:=Zh (p:=v5.there gO 0 8) ((DK7.out.loc 2 _ _ _ rfl).1.there (o:=0) (n:=8) (Zn rfl))
     refine Zw rfl 49 (.tmp 5) (.tmp 13) rfl gO 0 #[Zs other,Z O dl2,Z O dh2,Z O wl2,Z O wh2,Z O pil2,Z O boi2,Zl fa2 fn2 fc2] rfl rfl HE.out size_stack (by simp [Value.oneCell']) ?_
     change wpList _ _ _ _ _ (v5.setCells gO 0 [Zs other,Z O dl2,Z O dh2,Z O wl2,Z O wh2,Z O pil2,Z O boi2,Zl fa2 fn2 fc2])
     clear HE
     have DK8:=Zh (p:=Desk w (v5.setCells gO 0 [Zs other,Z O dl2,Z O dh2,Z O wl2,Z O wh2,Z O pil2,Z O boi2,Zl fa2 fn2 fc2]) (fun _=>False) C B bef aft l c made N kv tv m [(gD,55,[Z O kind,Z O day,Zs code,Zs other,Z O al,Z O ah,Z O bl,Z O bh]),(gS,49,[Zs code,Z O dl,Z O dh,Z O wl,Z O wh,Z O pil,Z O boi,Zl fa fn fc]),(gO,49,[Zs other,Z O dl2,Z O dh2,Z O wl2,Z O wh2,Z O pil2,Z O boi2,Zl fa2 fn2 fc2])]) (DK7.out.put 2 0 _ rfl)
     clear DK7
     generalize World.setCells _ _ _ _=v6 at DK8 ⊢
     change Till _ _ _ _∧wpAnyT _ _ _ _ _ _ _ _ _ _
     refine⟨fun h=>by simp at h,?_⟩
     try simp only [Za,Zb,Zc]
     refine till_done (by kernel_rfl) ?_
     go_wp2_with fail
     go_meet
     case rel=>exact⟨_,_,rfl,rfl,DK8⟩
    ·go_wp2_with fail
     have DK5:=Zh (p:=Desk w (v2.alloc (.cells #[Zs ⟨#[]⟩,Z O 0,Z O 0,Z O 0,Z O 0,Z O 0,Z O 0,Zl none 0 0] 49)) (fun _=>False) C B bef aft l c made N kv tv m [(gD,55,[Z O kind,Z O day,Zs code,Zs other,Z O al,Z O ah,Z O bl,Z O bh]),(gS,49,[Zs ⟨#[]⟩,Z O 0,Z O 0,Z O 0,Z O 0,Z O 0,Z O 0,Zl none 0 0]),(v2.heap.size,49,[Zs ⟨#[]⟩,Z O 0,Z O 0,Z O 0,Z O 0,Z O 0,Z O 0,Zl none 0 0])]) (DK4.out.alloc 49 [Zs ⟨#[]⟩,Z O 0,Z O 0,Z O 0,Z O 0,Z O 0,Z O 0,Zl none 0 0] rfl)
     generalize World.alloc _ _=v3 at DK5 ⊢
     generalize v2.heap.size=gO at DK5 ⊢
     have HT:=MK1 v3 ((DK5.out.loc 0 _ _ _ rfl).1)
     refine⟨fun _=>HT.out,?_⟩
     try simp only [Za,Zb,Zc]
     refine till_only (j:=7) (by kernel_rfl) rfl ?_
     go_wp2_with (go_at_call 94;refine(stack_yes DK5.out.book other HSO.out HK2.out HP2.out).mono ?_;rintro e v4 ⟨rfl,hb⟩;have DK6:=Zh (DK5.out.below hb);clear hb)
     have HT:=MK1 v4 ((DK6.out.loc 0 _ _ _ rfl).1)
     refine⟨fun _=>HT.out,?_⟩
     try simp only [Za,Zb,Zc]
     refine till_only (j:=10) (by kernel_rfl) rfl ?_
     have HE:=Zh (p:=v4.there gS 0 8) ((DK6.out.loc 1 _ _ _ rfl).1.there (o:=0) (n:=8) (Zn rfl))
     refine Zw rfl 49 (.tmp 4) (.tmp 9) rfl gS 0 #[Zs code,Z O dl,Z O dh,Z O wl,Z O wh,Z O pil,Z O boi,Zl fa fn fc] rfl rfl HE.out size_stack (by simp [Value.oneCell']) ?_
     change wpList _ _ _ _ _ (v4.setCells gS 0 [Zs code,Z O dl,Z O dh,Z O wl,Z O wh,Z O pil,Z O boi,Zl fa fn fc])
     clear HE
     have DK7:=Zh (p:=Desk w (v4.setCells gS 0 [Zs code,Z O dl,Z O dh,Z O wl,Z O wh,Z O pil,Z O boi,Zl fa fn fc]) (fun _=>False) C B bef aft l c made N kv tv m [(gD,55,[Z O kind,Z O day,Zs code,Zs other,Z O al,Z O ah,Z O bl,Z O bh]),(gS,49,[Zs code,Z O dl,Z O dh,Z O wl,Z O wh,Z O pil,Z O boi,Zl fa fn fc]),(gO,49,[Zs ⟨#[]⟩,Z O 0,Z O 0,Z O 0,Z O 0,Z O 0,Z O 0,Zl none 0 0])]) (DK6.out.put 1 0 _ rfl)
     clear DK6
     generalize World.setCells _ _ _ _=v5 at DK7 ⊢
     change Till _ _ _ _∧wpAnyT _ _ _ _ _ _ _ _ _ _
     have HT:=MK1 v5 ((DK7.out.loc 0 _ _ _ rfl).1)
     refine⟨fun _=>HT.out,?_⟩
     try simp only [Za,Zb,Zc]
     refine till_only (j:=11) (by kernel_rfl) rfl ?_
     have HE:=Zh (p:=v5.there gO 0 8) ((DK7.out.loc 2 _ _ _ rfl).1.there (o:=0) (n:=8) (Zn rfl))
     refine Zw rfl 49 (.tmp 5) (.tmp 13) rfl gO 0 #[Zs other,Z O dl2,Z O dh2,Z O wl2,Z O wh2,Z O pil2,Z O boi2,Zl fa2 fn2 fc2] rfl rfl HE.out size_stack (by simp [Value.oneCell']) ?_
     change wpList _ _ _ _ _ (v5.setCells gO 0 [Zs other,Z O dl2,Z O dh2,Z O wl2,Z O wh2,Z O pil2,Z O boi2,Zl fa2 fn2 fc2])
     clear HE
     have DK8:=Zh (p:=Desk w (v5.setCells gO 0 [Zs other,Z O dl2,Z O dh2,Z O wl2,Z O wh2,Z O pil2,Z O boi2,Zl fa2 fn2 fc2]) (fun _=>False) C B bef aft l c made N kv tv m [(gD,55,[Z O kind,Z O day,Zs code,Zs other,Z O al,Z O ah,Z O bl,Z O bh]),(gS,49,[Zs code,Z O dl,Z O dh,Z O wl,Z O wh,Z O pil,Z O boi,Zl fa fn fc]),(gO,49,[Zs other,Z O dl2,Z O dh2,Z O wl2,Z O wh2,Z O pil2,Z O boi2,Zl fa2 fn2 fc2])]) (DK7.out.put 2 0 _ rfl)
     clear DK7
     generalize World.setCells _ _ _ _=v6 at DK8 ⊢
     change Till _ _ _ _∧wpAnyT _ _ _ _ _ _ _ _ _ _
     refine⟨fun h=>by simp at h,?_⟩
     try simp only [Za,Zb,Zc]
     refine till_done (by kernel_rfl) ?_
     go_wp2_with fail
     go_meet
     case rel=>exact⟨_,_,rfl,rfl,DK8⟩
   ·go_wp2_with fail
    have DK4:=Zh (p:=Desk w (v1.alloc (.cells #[Zs ⟨#[]⟩,Z O 0,Z O 0,Z O 0,Z O 0,Z O 0,Z O 0,Zl none 0 0] 49)) (fun _=>False) C B bef aft l c made N kv tv m [(gD,55,[Z O kind,Z O day,Zs code,Zs other,Z O al,Z O ah,Z O bl,Z O bh]),(gS,49,[Zs ⟨#[]⟩,Z O 0,Z O 0,Z O 0,Z O 0,Z O 0,Z O 0,Zl none 0 0]),(v1.heap.size,49,[Zs ⟨#[]⟩,Z O 0,Z O 0,Z O 0,Z O 0,Z O 0,Z O 0,Zl none 0 0])]) (DK3.out.alloc 49 [Zs ⟨#[]⟩,Z O 0,Z O 0,Z O 0,Z O 0,Z O 0,Z O 0,Zl none 0 0] rfl)
    generalize World.alloc _ _=v2 at DK4 ⊢
    generalize v1.heap.size=gO at DK4 ⊢
    have HT:=MK1 v2 ((DK4.out.loc 0 _ _ _ rfl).1)
    refine⟨fun _=>HT.out,?_⟩
    try simp only [Za,Zb,Zc]
    refine till_only (j:=3) (by kernel_rfl) rfl ?_
    go_wp2_with (go_at_call 94;refine(stack_yes DK4.out.book code HS.out HK.out HP.out).mono ?_;rintro e v3 ⟨rfl,hb⟩;have DK5:=Zh (DK4.out.below hb);clear hb)
    have HT:=MK1 v3 ((DK5.out.loc 0 _ _ _ rfl).1)
    refine⟨fun _=>HT.out,?_⟩
    try simp only [Za,Zb,Zc]
    refine till_only (j:=7) (by kernel_rfl) rfl ?_
    go_wp2_with (go_at_call 94;refine(stack_yes DK5.out.book other HSO.out HK2.out HP2.out).mono ?_;rintro e v4 ⟨rfl,hb⟩;have DK6:=Zh (DK5.out.below hb);clear hb)
    have HT:=MK1 v4 ((DK6.out.loc 0 _ _ _ rfl).1)
    refine⟨fun _=>HT.out,?_⟩
    try simp only [Za,Zb,Zc]
    refine till_only (j:=10) (by kernel_rfl) rfl ?_
    have HE:=Zh (p:=v4.there gS 0 8) ((DK6.out.loc 1 _ _ _ rfl).1.there (o:=0) (n:=8) (Zn rfl))
    refine Zw rfl 49 (.tmp 4) (.tmp 9) rfl gS 0 #[Zs code,Z O dl,Z O dh,Z O wl,Z O wh,Z O pil,Z O boi,Zl fa fn fc] rfl rfl HE.out size_stack (by simp [Value.oneCell']) ?_
    change wpList _ _ _ _ _ (v4.setCells gS 0 [Zs code,Z O dl,Z O dh,Z O wl,Z O wh,Z O pil,Z O boi,Zl fa fn fc])
    clear HE
    have DK7:=Zh (p:=Desk w (v4.setCells gS 0 [Zs code,Z O dl,Z O dh,Z O wl,Z O wh,Z O pil,Z O boi,Zl fa fn fc]) (fun _=>False) C B bef aft l c made N kv tv m [(gD,55,[Z O kind,Z O day,Zs code,Zs other,Z O al,Z O ah,Z O bl,Z O bh]),(gS,49,[Zs code,Z O dl,Z O dh,Z O wl,Z O wh,Z O pil,Z O boi,Zl fa fn fc]),(gO,49,[Zs ⟨#[]⟩,Z O 0,Z O 0,Z O 0,Z O 0,Z O 0,Z O 0,Zl none 0 0])]) (DK6.out.put 1 0 _ rfl)
    clear DK6
    generalize World.setCells _ _ _ _=v5 at DK7 ⊢
    change Till _ _ _ _∧wpAnyT _ _ _ _ _ _ _ _ _ _
    have HT:=MK1 v5 ((DK7.out.loc 0 _ _ _ rfl).1)
    refine⟨fun _=>HT.out,?_⟩
    try simp only [Za,Zb,Zc]
    refine till_only (j:=11) (by kernel_rfl) rfl ?_
    have HE:=Zh (p:=v5.there gO 0 8) ((DK7.out.loc 2 _ _ _ rfl).1.there (o:=0) (n:=8) (Zn rfl))
    refine Zw rfl 49 (.tmp 5) (.tmp 13) rfl gO 0 #[Zs other,Z O dl2,Z O dh2,Z O wl2,Z O wh2,Z O pil2,Z O boi2,Zl fa2 fn2 fc2] rfl rfl HE.out size_stack (by simp [Value.oneCell']) ?_
    change wpList _ _ _ _ _ (v5.setCells gO 0 [Zs other,Z O dl2,Z O dh2,Z O wl2,Z O wh2,Z O pil2,Z O boi2,Zl fa2 fn2 fc2])
    clear HE
    have DK8:=Zh (p:=Desk w (v5.setCells gO 0 [Zs other,Z O dl2,Z O dh2,Z O wl2,Z O wh2,Z O pil2,Z O boi2,Zl fa2 fn2 fc2]) (fun _=>False) C B bef aft l c made N kv tv m [(gD,55,[Z O kind,Z O day,Zs code,Zs other,Z O al,Z O ah,Z O bl,Z O bh]),(gS,49,[Zs code,Z O dl,Z O dh,Z O wl,Z O wh,Z O pil,Z O boi,Zl fa fn fc]),(gO,49,[Zs other,Z O dl2,Z O dh2,Z O wl2,Z O wh2,Z O pil2,Z O boi2,Zl fa2 fn2 fc2])]) (DK7.out.put 2 0 _ rfl)
    clear DK7
    generalize World.setCells _ _ _ _=v6 at DK8 ⊢
    change Till _ _ _ _∧wpAnyT _ _ _ _ _ _ _ _ _ _
    refine⟨fun h=>by simp at h,?_⟩
    try simp only [Za,Zb,Zc]
    refine till_done (by kernel_rfl) ?_
    go_wp2_with fail
    go_meet
    case rel=>exact⟨_,_,rfl,rfl,DK8⟩
  ·go_wp2_with fail
   have DK3:=Zh (p:=Desk w (v0.alloc (.cells #[Zs ⟨#[]⟩,Z O 0,Z O 0,Z O 0,Z O 0,Z O 0,Z O 0,Zl none 0 0] 49)) (fun _=>False) C B bef aft l c made N kv tv m [(gD,55,[Z O kind,Z O day,Zs code,Zs other,Z O al,Z O ah,Z O bl,Z O bh]),(v0.heap.size,49,[Zs ⟨#[]⟩,Z O 0,Z O 0,Z O 0,Z O 0,Z O 0,Z O 0,Zl none 0 0])]) (DK2.out.alloc 49 [Zs ⟨#[]⟩,Z O 0,Z O 0,Z O 0,Z O 0,Z O 0,Z O 0,Zl none 0 0] rfl)
   generalize World.alloc _ _=v1 at DK3 ⊢
   generalize v0.heap.size=gO at DK3 ⊢
   have HT:=MK1 v1 ((DK3.out.loc 0 _ _ _ rfl).1)
   refine⟨fun _=>HT.out,?_⟩
   try simp only [Za,Zb,Zc]
   refine till_two (i:=3) (j:=8) (by kernel_rfl) rfl rfl ?_ ?_
   ·go_wp2_with (go_at_call 94;refine(stack_yes DK3.out.book code HS.out HK.out HP.out).mono ?_;rintro e v2 ⟨rfl,hb⟩;have DK4:=Zh (DK3.out.below hb);clear hb)
    have HT:=MK1 v2 ((DK4.out.loc 0 _ _ _ rfl).1)
    refine⟨fun _=>HT.out,?_⟩
    try simp only [Za,Zb,Zc]
    refine till_two (i:=7) (j:=8) (by kernel_rfl) rfl rfl ?_ ?_
    ·go_wp2_with (go_at_call 94;refine(stack_yes DK4.out.book other HSO.out HK2.out HP2.out).mono ?_;rintro e v3 ⟨rfl,hb⟩;have DK5:=Zh (DK4.out.below hb);clear hb)
     have HT:=MK1 v3 ((DK5.out.loc 0 _ _ _ rfl).1)
     refine⟨fun _=>HT.out,?_⟩
     try simp only [Za,Zb,Zc]
     refine till_only (j:=8) (by kernel_rfl) rfl ?_
     go_wp2_with fail
     have DK6:=Zh (p:=Desk w (v3.alloc (.cells #[Zs ⟨#[]⟩,Z O 0,Z O 0,Z O 0,Z O 0,Z O 0,Z O 0,Zl none 0 0] 49)) (fun _=>False) C B bef aft l c made N kv tv m [(gD,55,[Z O kind,Z O day,Zs code,Zs other,Z O al,Z O ah,Z O bl,Z O bh]),(gO,49,[Zs ⟨#[]⟩,Z O 0,Z O 0,Z O 0,Z O 0,Z O 0,Z O 0,Zl none 0 0]),(v3.heap.size,49,[Zs ⟨#[]⟩,Z O 0,Z O 0,Z O 0,Z O 0,Z O 0,Z O 0,Zl none 0 0])]) (DK5.out.alloc 49 [Zs ⟨#[]⟩,Z O 0,Z O 0,Z O 0,Z O 0,Z O 0,Z O 0,Zl none 0 0] rfl)
     generalize World.alloc _ _=v4 at DK6 ⊢
     generalize v3.heap.size=gS at DK6 ⊢
     have HT:=MK1 v4 ((DK6.out.loc 0 _ _ _ rfl).1)
     refine⟨fun _=>HT.out,?_⟩
     try simp only [Za,Zb,Zc]
     refine till_only (j:=10) (by kernel_rfl) rfl ?_
     have HE:=Zh (p:=v4.there gS 0 8) ((DK6.out.loc 2 _ _ _ rfl).1.there (o:=0) (n:=8) (Zn rfl))
     refine Zw rfl 49 (.tmp 4) (.tmp 9) rfl gS 0 #[Zs code,Z O dl,Z O dh,Z O wl,Z O wh,Z O pil,Z O boi,Zl fa fn fc] rfl rfl HE.out size_stack (by simp [Value.oneCell']) ?_
     change wpList _ _ _ _ _ (v4.setCells gS 0 [Zs code,Z O dl,Z O dh,Z O wl,Z O wh,Z O pil,Z O boi,Zl fa fn fc])
     clear HE
     have DK7:=Zh (p:=Desk w (v4.setCells gS 0 [Zs code,Z O dl,Z O dh,Z O wl,Z O wh,Z O pil,Z O boi,Zl fa fn fc]) (fun _=>False) C B bef aft l c made N kv tv m [(gD,55,[Z O kind,Z O day,Zs code,Zs other,Z O al,Z O ah,Z O bl,Z O bh]),(gO,49,[Zs ⟨#[]⟩,Z O 0,Z O 0,Z O 0,Z O 0,Z O 0,Z O 0,Zl none 0 0]),(gS,49,[Zs code,Z O dl,Z O dh,Z O wl,Z O wh,Z O pil,Z O boi,Zl fa fn fc])]) (DK6.out.put 2 0 _ rfl)
     clear DK6
     generalize World.setCells _ _ _ _=v5 at DK7 ⊢
     change Till _ _ _ _∧wpAnyT _ _ _ _ _ _ _ _ _ _
     have HT:=MK1 v5 ((DK7.out.loc 0 _ _ _ rfl).1)
     refine⟨fun _=>HT.out,?_⟩
     try simp only [Za,Zb,Zc]
     refine till_only (j:=11) (by kernel_rfl) rfl ?_
     have HE:=Zh (p:=v5.there gO 0 8) ((DK7.out.loc 1 _ _ _ rfl).1.there (o:=0) (n:=8) (Zn rfl))
     refine Zw rfl 49 (.tmp 5) (.tmp 13) rfl gO 0 #[Zs other,Z O dl2,Z O dh2,Z O wl2,Z O wh2,Z O pil2,Z O boi2,Zl fa2 fn2 fc2] rfl rfl HE.out size_stack (by simp [Value.oneCell']) ?_
     change wpList _ _ _ _ _ (v5.setCells gO 0 [Zs other,Z O dl2,Z O dh2,Z O wl2,Z O wh2,Z O pil2,Z O boi2,Zl fa2 fn2 fc2])
     clear HE
     have DK8:=Zh (p:=Desk w (v5.setCells gO 0 [Zs other,Z O dl2,Z O dh2,Z O wl2,Z O wh2,Z O pil2,Z O boi2,Zl fa2 fn2 fc2]) (fun _=>False) C B bef aft l c made N kv tv m [(gD,55,[Z O kind,Z O day,Zs code,Zs other,Z O al,Z O ah,Z O bl,Z O bh]),(gO,49,[Zs other,Z O dl2,Z O dh2,Z O wl2,Z O wh2,Z O pil2,Z O boi2,Zl fa2 fn2 fc2]),(gS,49,[Zs code,Z O dl,Z O dh,Z O wl,Z O wh,Z O pil,Z O boi,Zl fa fn fc])]) (DK7.out.put 1 0 _ rfl)
     clear DK7
     generalize World.setCells _ _ _ _=v6 at DK8 ⊢
     change Till _ _ _ _∧wpAnyT _ _ _ _ _ _ _ _ _ _
     refine⟨fun h=>by simp at h,?_⟩
     try simp only [Za,Zb,Zc]
     refine till_done (by kernel_rfl) ?_
     go_wp2_with fail
     go_meet
     case rel=>exact⟨_,_,rfl,rfl,Zh DK8.out.swap⟩
    ·go_wp2_with fail
     have DK5:=Zh (p:=Desk w (v2.alloc (.cells #[Zs ⟨#[]⟩,Z O 0,Z O 0,Z O 0,Z O 0,Z O 0,Z O 0,Zl none 0 0] 49)) (fun _=>False) C B bef aft l c made N kv tv m [(gD,55,[Z O kind,Z O day,Zs code,Zs other,Z O al,Z O ah,Z O bl,Z O bh]),(gO,49,[Zs ⟨#[]⟩,Z O 0,Z O 0,Z O 0,Z O 0,Z O 0,Z O 0,Zl none 0 0]),(v2.heap.size,49,[Zs ⟨#[]⟩,Z O 0,Z O 0,Z O 0,Z O 0,Z O 0,Z O 0,Zl none 0 0])]) (DK4.out.alloc 49 [Zs ⟨#[]⟩,Z O 0,Z O 0,Z O 0,Z O 0,Z O 0,Z O 0,Zl none 0 0] rfl)
     generalize World.alloc _ _=v3 at DK5 ⊢
     generalize v2.heap.size=gS at DK5 ⊢
     have HT:=MK1 v3 ((DK5.out.loc 0 _ _ _ rfl).1)
     refine⟨fun _=>HT.out,?_⟩
     try simp only [Za,Zb,Zc]
     refine till_only (j:=7) (by kernel_rfl) rfl ?_
     go_wp2_with (go_at_call 94;refine(stack_yes DK5.out.book other HSO.out HK2.out HP2.out).mono ?_;rintro e v4 ⟨rfl,hb⟩;have DK6:=Zh (DK5.out.below hb);clear hb)
     have HT:=MK1 v4 ((DK6.out.loc 0 _ _ _ rfl).1)
     refine⟨fun _=>HT.out,?_⟩
     try simp only [Za,Zb,Zc]
     refine till_only (j:=10) (by kernel_rfl) rfl ?_
     have HE:=Zh (p:=v4.there gS 0 8) ((DK6.out.loc 2 _ _ _ rfl).1.there (o:=0) (n:=8) (Zn rfl))
     refine Zw rfl 49 (.tmp 4) (.tmp 9) rfl gS 0 #[Zs code,Z O dl,Z O dh,Z O wl,Z O wh,Z O pil,Z O boi,Zl fa fn fc] rfl rfl HE.out size_stack (by simp [Value.oneCell']) ?_
     change wpList _ _ _ _ _ (v4.setCells gS 0 [Zs code,Z O dl,Z O dh,Z O wl,Z O wh,Z O pil,Z O boi,Zl fa fn fc])
     clear HE
     have DK7:=Zh (p:=Desk w (v4.setCells gS 0 [Zs code,Z O dl,Z O dh,Z O wl,Z O wh,Z O pil,Z O boi,Zl fa fn fc]) (fun _=>False) C B bef aft l c made N kv tv m [(gD,55,[Z O kind,Z O day,Zs code,Zs other,Z O al,Z O ah,Z O bl,Z O bh]),(gO,49,[Zs ⟨#[]⟩,Z O 0,Z O 0,Z O 0,Z O 0,Z O 0,Z O 0,Zl none 0 0]),(gS,49,[Zs code,Z O dl,Z O dh,Z O wl,Z O wh,Z O pil,Z O boi,Zl fa fn fc])]) (DK6.out.put 2 0 _ rfl)
     clear DK6
     generalize World.setCells _ _ _ _=v5 at DK7 ⊢
     change Till _ _ _ _∧wpAnyT _ _ _ _ _ _ _ _ _ _
     have HT:=MK1 v5 ((DK7.out.loc 0 _ _ _ rfl).1)
     refine⟨fun _=>HT.out,?_⟩
     try simp only [Za,Zb,Zc]
     refine till_only (j:=11) (by kernel_rfl) rfl ?_
     have HE:=Zh (p:=v5.there gO 0 8) ((DK7.out.loc 1 _ _ _ rfl).1.there (o:=0) (n:=8) (Zn rfl))
     refine Zw rfl 49 (.tmp 5) (.tmp 13) rfl gO 0 #[Zs other,Z O dl2,Z O dh2,Z O wl2,Z O wh2,Z O pil2,Z O boi2,Zl fa2 fn2 fc2] rfl rfl HE.out size_stack (by simp [Value.oneCell']) ?_
     change wpList _ _ _ _ _ (v5.setCells gO 0 [Zs other,Z O dl2,Z O dh2,Z O wl2,Z O wh2,Z O pil2,Z O boi2,Zl fa2 fn2 fc2])
     clear HE
     have DK8:=Zh (p:=Desk w (v5.setCells gO 0 [Zs other,Z O dl2,Z O dh2,Z O wl2,Z O wh2,Z O pil2,Z O boi2,Zl fa2 fn2 fc2]) (fun _=>False) C B bef aft l c made N kv tv m [(gD,55,[Z O kind,Z O day,Zs code,Zs other,Z O al,Z O ah,Z O bl,Z O bh]),(gO,49,[Zs other,Z O dl2,Z O dh2,Z O wl2,Z O wh2,Z O pil2,Z O boi2,Zl fa2 fn2 fc2]),(gS,49,[Zs code,Z O dl,Z O dh,Z O wl,Z O wh,Z O pil,Z O boi,Zl fa fn fc])]) (DK7.out.put 1 0 _ rfl)
     clear DK7
     generalize World.setCells _ _ _ _=v6 at DK8 ⊢
     change Till _ _ _ _∧wpAnyT _ _ _ _ _ _ _ _ _ _
     refine⟨fun h=>by simp at h,?_⟩
     try simp only [Za,Zb,Zc]
     refine till_done (by kernel_rfl) ?_
     go_wp2_with fail
     go_meet
     case rel=>exact⟨_,_,rfl,rfl,Zh DK8.out.swap⟩
   ·go_wp2_with fail
    have DK4:=Zh (p:=Desk w (v1.alloc (.cells #[Zs ⟨#[]⟩,Z O 0,Z O 0,Z O 0,Z O 0,Z O 0,Z O 0,Zl none 0 0] 49)) (fun _=>False) C B bef aft l c made N kv tv m [(gD,55,[Z O kind,Z O day,Zs code,Zs other,Z O al,Z O ah,Z O bl,Z O bh]),(gO,49,[Zs ⟨#[]⟩,Z O 0,Z O 0,Z O 0,Z O 0,Z O 0,Z O 0,Zl none 0 0]),(v1.heap.size,49,[Zs ⟨#[]⟩,Z O 0,Z O 0,Z O 0,Z O 0,Z O 0,Z O 0,Zl none 0 0])]) (DK3.out.alloc 49 [Zs ⟨#[]⟩,Z O 0,Z O 0,Z O 0,Z O 0,Z O 0,Z O 0,Zl none 0 0] rfl)
    generalize World.alloc _ _=v2 at DK4 ⊢
    generalize v1.heap.size=gS at DK4 ⊢
    have HT:=MK1 v2 ((DK4.out.loc 0 _ _ _ rfl).1)
    refine⟨fun _=>HT.out,?_⟩
    try simp only [Za,Zb,Zc]
    refine till_only (j:=3) (by kernel_rfl) rfl ?_
    go_wp2_with (go_at_call 94;refine(stack_yes DK4.out.book code HS.out HK.out HP.out).mono ?_;rintro e v3 ⟨rfl,hb⟩;have DK5:=Zh (DK4.out.below hb);clear hb)
    have HT:=MK1 v3 ((DK5.out.loc 0 _ _ _ rfl).1)
    refine⟨fun _=>HT.out,?_⟩
    try simp only [Za,Zb,Zc]
    refine till_only (j:=7) (by kernel_rfl) rfl ?_
    go_wp2_with (go_at_call 94;refine(stack_yes DK5.out.book other HSO.out HK2.out HP2.out).mono ?_;rintro e v4 ⟨rfl,hb⟩;have DK6:=Zh (DK5.out.below hb);clear hb)
    have HT:=MK1 v4 ((DK6.out.loc 0 _ _ _ rfl).1)
    refine⟨fun _=>HT.out,?_⟩
    try simp only [Za,Zb,Zc]
    refine till_only (j:=10) (by kernel_rfl) rfl ?_
    have HE:=Zh (p:=v4.there gS 0 8) ((DK6.out.loc 2 _ _ _ rfl).1.there (o:=0) (n:=8) (Zn rfl))
    refine Zw rfl 49 (.tmp 4) (.tmp 9) rfl gS 0 #[Zs code,Z O dl,Z O dh,Z O wl,Z O wh,Z O pil,Z O boi,Zl fa fn fc] rfl rfl HE.out size_stack (by simp [Value.oneCell']) ?_
    change wpList _ _ _ _ _ (v4.setCells gS 0 [Zs code,Z O dl,Z O dh,Z O wl,Z O wh,Z O pil,Z O boi,Zl fa fn fc])
    clear HE
    have DK7:=Zh (p:=Desk w (v4.setCells gS 0 [Zs code,Z O dl,Z O dh,Z O wl,Z O wh,Z O pil,Z O boi,Zl fa fn fc]) (fun _=>False) C B bef aft l c made N kv tv m [(gD,55,[Z O kind,Z O day,Zs code,Zs other,Z O al,Z O ah,Z O bl,Z O bh]),(gO,49,[Zs ⟨#[]⟩,Z O 0,Z O 0,Z O 0,Z O 0,Z O 0,Z O 0,Zl none 0 0]),(gS,49,[Zs code,Z O dl,Z O dh,Z O wl,Z O wh,Z O pil,Z O boi,Zl fa fn fc])]) (DK6.out.put 2 0 _ rfl)
    clear DK6
    generalize World.setCells _ _ _ _=v5 at DK7 ⊢
    change Till _ _ _ _∧wpAnyT _ _ _ _ _ _ _ _ _ _
    have HT:=MK1 v5 ((DK7.out.loc 0 _ _ _ rfl).1)
    refine⟨fun _=>HT.out,?_⟩
    try simp only [Za,Zb,Zc]
    refine till_only (j:=11) (by kernel_rfl) rfl ?_
    have HE:=Zh (p:=v5.there gO 0 8) ((DK7.out.loc 1 _ _ _ rfl).1.there (o:=0) (n:=8) (Zn rfl))
    refine Zw rfl 49 (.tmp 5) (.tmp 13) rfl gO 0 #[Zs other,Z O dl2,Z O dh2,Z O wl2,Z O wh2,Z O pil2,Z O boi2,Zl fa2 fn2 fc2] rfl rfl HE.out size_stack (by simp [Value.oneCell']) ?_
    change wpList _ _ _ _ _ (v5.setCells gO 0 [Zs other,Z O dl2,Z O dh2,Z O wl2,Z O wh2,Z O pil2,Z O boi2,Zl fa2 fn2 fc2])
    clear HE
    have DK8:=Zh (p:=Desk w (v5.setCells gO 0 [Zs other,Z O dl2,Z O dh2,Z O wl2,Z O wh2,Z O pil2,Z O boi2,Zl fa2 fn2 fc2]) (fun _=>False) C B bef aft l c made N kv tv m [(gD,55,[Z O kind,Z O day,Zs code,Zs other,Z O al,Z O ah,Z O bl,Z O bh]),(gO,49,[Zs other,Z O dl2,Z O dh2,Z O wl2,Z O wh2,Z O pil2,Z O boi2,Zl fa2 fn2 fc2]),(gS,49,[Zs code,Z O dl,Z O dh,Z O wl,Z O wh,Z O pil,Z O boi,Zl fa fn fc])]) (DK7.out.put 1 0 _ rfl)
    clear DK7
    generalize World.setCells _ _ _ _=v6 at DK8 ⊢
    change Till _ _ _ _∧wpAnyT _ _ _ _ _ _ _ _ _ _
    refine⟨fun h=>by simp at h,?_⟩
    try simp only [Za,Zb,Zc]
    refine till_done (by kernel_rfl) ?_
    go_wp2_with fail
    go_meet
    case rel=>exact⟨_,_,rfl,rfl,Zh DK8.out.swap⟩
 case rest =>
  obtain⟨gS,gO,rfl,rfl,DK2⟩:=hcut
  clear DK1
  have t2:=DK2.out.at 0 2 (v:=Zs code) rfl rfl
  have t3:=DK2.out.at 0 3 (v:=Zs other) rfl rfl
  go_upto_region 3 with(go_at_call 98;refine(need_true _ _).mono ?_;rintro e w2 ⟨rfl,rfl⟩)
  clear t2 t3
  have q0:=Zg (DK2.out.at 1 1 (v:=Z O dl) rfl rfl)
  have q1:=Zg (DK2.out.at 1 2 (v:=Z O dh) rfl rfl)
  have q2:=Zg (DK2.out.at 2 1 (v:=Z O dl2) rfl rfl)
  have q3:=Zg (DK2.out.at 2 2 (v:=Z O dh2) rfl rfl)
  have q4:=Zg (DK2.out.at 1 3 (v:=Z O wl) rfl rfl)
  have q5:=Zg (DK2.out.at 1 4 (v:=Z O wh) rfl rfl)
  have q6:=Zg (DK2.out.at 2 3 (v:=Z O wl2) rfl rfl)
  have q7:=Zg (DK2.out.at 2 4 (v:=Z O wh2) rfl rfl)
  have k0:∀ d os,Calls Try.prog 95 #[.agg #[Z O dl,Z O dh],.agg #[Z O dl2,Z O dh2]] (Go.Sort.grow (redrawn wc d) os) fun e w''=>e=.returned (.agg #[Z O p1.lo,Z O p1.hi])∧∃ p:Regrown,w''=Go.Sort.grow (redrawn wc p.d) p.os:=regrown_calls (fun w=>by exact sum_up HUD.out HV8.out HUD2.out HV8.out Ep1.out w)
  have k1:∀ d os,Calls Try.prog 95 #[.agg #[Z O wl,Z O wh],.agg #[Z O wl2,Z O wh2]] (Go.Sort.grow (redrawn wc d) os) fun e w''=>e=.returned (.agg #[Z O p2.lo,Z O p2.hi])∧∃ p:Regrown,w''=Go.Sort.grow (redrawn wc p.d) p.os:=regrown_calls (fun w=>by exact sum_up HUW.out HV8.out HUW2.out HV8.out Ep2.out w)
  refine region_split_below 11 (by kernel_rfl) (by kernel_rfl) (by kernel_rfl) ?_
  simp only [List.take_succ_cons,List.take_zero,List.drop_succ_cons,List.drop_zero]
  repeat(go_big_quiet_step (first|(with_reducible exact k0 _ _)|(with_reducible exact k1 _ _)))
  refine wpQuiet_nil ?_
  intro v0 hw'
  have hb8:Below wc.heap.size wc v0:=by obtain⟨⟨dq,osq⟩,hw''⟩:=hw';rw [hw''];exact Zk wc dq osq
  clear hw' q0 q1 q2 q3 q4 q5 q6 q7 k0 k1
  have DK3:=Zh (p:=Desk w v0 (fun _=>False) C B bef aft l c made N kv tv m [(gD,55,[Z O kind,Z O day,Zs code,Zs other,Z O al,Z O ah,Z O bl,Z O bh]),(gS,49,[Zs code,Z O dl,Z O dh,Z O wl,Z O wh,Z O pil,Z O boi,Zl fa fn fc]),(gO,49,[Zs other,Z O dl2,Z O dh2,Z O wl2,Z O wh2,Z O pil2,Z O boi2,Zl fa2 fn2 fc2])]) (DK2.out.below hb8)
  clear DK2
  have HB8:=Zh hb8;clear hb8
  have HE:=Zh (p:=v0.there gS 1 2) ((DK3.out.loc 1 _ _ _ rfl).1.there (o:=1) (n:=2) (Zn rfl))
  refine Zw rfl 32 (.tmp 30) (.tmp 24) rfl gS 1 #[Z O p1.lo,Z O p1.hi] rfl rfl HE.out size_bounds (by simp [Value.oneCell']) ?_
  change wpList _ _ _ _ _ (v0.setCells gS 1 [Z O p1.lo,Z O p1.hi])
  clear HE
  have DK4:=Zh (p:=Desk w (v0.setCells gS 1 [Z O p1.lo,Z O p1.hi]) (fun _=>False) C B bef aft l c made N kv tv m [(gD,55,[Z O kind,Z O day,Zs code,Zs other,Z O al,Z O ah,Z O bl,Z O bh]),(gS,49,[Zs code,Z O p1.lo,Z O p1.hi,Z O wl,Z O wh,Z O pil,Z O boi,Zl fa fn fc]),(gO,49,[Zs other,Z O dl2,Z O dh2,Z O wl2,Z O wh2,Z O pil2,Z O boi2,Zl fa2 fn2 fc2])]) (DK3.out.put 1 1 _ rfl)
  clear DK3
  generalize World.setCells _ _ _ _=v1 at DK4 ⊢
  simp only [Act.put]
  have HE:=Zh (p:=v1.there gS 3 2) ((DK4.out.loc 1 _ _ _ rfl).1.there (o:=3) (n:=2) (Zn rfl))
  go_upto_region 4 with((with_reducible refine at_store 32 (.tmp 31) (.tmp 29) ?_);go_must (refine Zw rfl 32 (.tmp 31) (.tmp 29) rfl gS 3 #[Z O p2.lo,Z O p2.hi] rfl rfl HE.out size_bounds (by simp [Value.oneCell']) ?_))
  clear HE
  have DK5:=Zh (p:=Desk w (v1.setCells gS 3 [Z O p2.lo,Z O p2.hi]) (fun _=>False) C B bef aft l c made N kv tv m [(gD,55,[Z O kind,Z O day,Zs code,Zs other,Z O al,Z O ah,Z O bl,Z O bh]),(gS,49,[Zs code,Z O p1.lo,Z O p1.hi,Z O p2.lo,Z O p2.hi,Z O pil,Z O boi,Zl fa fn fc]),(gO,49,[Zs other,Z O dl2,Z O dh2,Z O wl2,Z O wh2,Z O pil2,Z O boi2,Zl fa2 fn2 fc2])]) (DK4.out.put 1 3 _ rfl)
  clear DK4
  generalize World.setCells _ _ _ _=v2 at DK5 ⊢
  try simp only [Act.put]
  have q0:=Zg (DK5.out.at 1 5 (v:=Z O pil) rfl rfl)
  have q1:=Zg (DK5.out.at 2 5 (v:=Z O pil2) rfl rfl)
  have q2:=Zg (DK5.out.at 1 6 (v:=Z O boi) rfl rfl)
  have q3:=Zg (DK5.out.at 2 6 (v:=Z O boi2) rfl rfl)
  have k0:∀ d os,Calls Try.prog 102 #[Z O boi,Z O boi2] (Go.Sort.grow (redrawn v2 d) os) fun e w''=>e=.returned (Z O lb)∧∃ p:Regrown,w''=Go.Sort.grow (redrawn v2 p.d) p.os:=regrown_calls (fun w=>by exact laterBoiled_calls boi boi2 lb w HBO.out HBO2.out Elb.out)
  refine region_split_below 11 (by kernel_rfl) (by kernel_rfl) (by kernel_rfl) ?_
  simp only [List.take_succ_cons,List.take_zero,List.drop_succ_cons,List.drop_zero]
  repeat(go_big_quiet_step (first|(with_reducible exact k0 _ _)))
  refine wpQuiet_nil ?_
  intro v3 hw'
  have hb8:Below v2.heap.size v2 v3:=by obtain⟨⟨dq,osq⟩,hw''⟩:=hw';rw [hw''];exact Zk v2 dq osq
  clear hw' q0 q1 q2 q3 k0
  have DK6:=Zh (p:=Desk w v3 (fun _=>False) C B bef aft l c made N kv tv m [(gD,55,[Z O kind,Z O day,Zs code,Zs other,Z O al,Z O ah,Z O bl,Z O bh]),(gS,49,[Zs code,Z O p1.lo,Z O p1.hi,Z O p2.lo,Z O p2.hi,Z O pil,Z O boi,Zl fa fn fc]),(gO,49,[Zs other,Z O dl2,Z O dh2,Z O wl2,Z O wh2,Z O pil2,Z O boi2,Zl fa2 fn2 fc2])]) (DK5.out.below hb8)
  clear DK5
  have HB8:=Zh hb8;clear hb8
  generalize hmx:(if pil<pil2 then pil2 else pil)=mx
  have HMX:=Zh hmx;clear hmx
  have hc5:=DK6.out.at 1 5 (v:=Z O pil) rfl rfl
  have hf5:=(DK6.out.loc 1 _ _ _ rfl).1.frozen 5
  have DA:=Zh (p:=Desk w (v3.setCell ⟨gS,5,none⟩ (Z O mx)) (fun _=>False) C B bef aft l c made N kv tv m _) (DK6.out.setLoc1 1 [Zs code,Z O p1.lo,Z O p1.hi,Z O p2.lo,Z O p2.hi] [Z O boi,Zl fa fn fc] (Z O pil) (Z O mx) 5 rfl rfl (by decide))
  have DA2:=Zh (p:=Desk w (v3.setCell ⟨gS,5,none⟩ (Z O mx)) (fun _=>False) C B bef aft l c made N kv tv m [(gD,55,[Z O kind,Z O day,Zs code,Zs other,Z O al,Z O ah,Z O bl,Z O bh]),(gS,49,[Zs code,Z O p1.lo,Z O p1.hi,Z O p2.lo,Z O p2.hi,Z O mx,Z O boi,Zl fa fn fc]),(gO,49,[Zs other,Z O dl2,Z O dh2,Z O wl2,Z O wh2,Z O pil2,Z O boi2,Zl fa2 fn2 fc2])]) (DA.out);clear DA
  have hc6:=(show(v3.setCell ⟨gS,5,none⟩ (Z O mx)).cell? ⟨gS,6,none⟩=some (Z O boi)from DA2.out.at 1 6 rfl rfl)
  have hf6:=(DA2.out.loc 1 _ _ _ rfl).1.frozen 6
  go_upto_region 5 with fail
  clear hc5 hf5 hc6 hf6 DK6
  have DK7:=Zh (p:=Desk w ((v3.setCell ⟨gS,5,none⟩ (Z O mx)).setCell ⟨gS,6,none⟩ (Z O lb)) (fun _=>False) C B bef aft l c made N kv tv m [(gD,55,[Z O kind,Z O day,Zs code,Zs other,Z O al,Z O ah,Z O bl,Z O bh]),(gS,49,[Zs code,Z O p1.lo,Z O p1.hi,Z O p2.lo,Z O p2.hi,Z O mx,Z O lb,Zl fa fn fc]),(gO,49,[Zs other,Z O dl2,Z O dh2,Z O wl2,Z O wh2,Z O pil2,Z O boi2,Zl fa2 fn2 fc2])]) (DA2.out.setLoc1 1 [Zs code,Z O p1.lo,Z O p1.hi,Z O p2.lo,Z O p2.hi,Z O mx] [Zl fa fn fc] (Z O boi) (Z O lb) 6 rfl rfl (by decide))
  clear DA2
  generalize World.setCell _ _ _=v50 at DK7 ⊢
  have s7:=DK7.out.at 1 7 (v:=Zl fa fn fc) rfl rfl
  have o7:=DK7.out.at 2 7 (v:=Zl fa2 fn2 fc2) rfl rfl
  have HR1:=Zh (p:=v50.ownsRow 0 3 1 (Zl fa fn fc) src.length (intCells src)) (DK7.out.book.froms _ (List.mem_of_getElem? HP.out))
  have HR2:=Zh (p:=v50.ownsRow 0 3 1 (Zl fa2 fn2 fc2) src2.length (intCells src2)) (DK7.out.book.froms _ (List.mem_of_getElem? HP2.out))
  go_upto_region 6 with(go_at_call 103;go_must (refine(joined_calls HR1.out HR2.out HN1.out HN2.out HL1.out HL2.out HA1.out HA2.out).mono ?_);rintro e v51 ⟨v,rfl,hb,ho⟩;obtain⟨va,vn,vc,rfl⟩:=row_slice ho;have DK8:=Zh (DK7.out.below hb);have HOV:=Zh ho;have HZV:=Zh hb.size;have hc7:=DK8.out.at 1 7 (v:=Zl fa fn fc) rfl rfl;have hf7:=(DK8.out.loc 1 _ _ _ rfl).1.frozen 7;clear hb ho)
  clear hc7 hf7 s7 o7 HR1 HR2
  have HOV2:=Zh (row_setCell HOV.out (DK8.out.loc 1 _ _ _ rfl).1 (by decide) 7 (Zl va vn vc))
  have HFG:=Zh (p:=∀ g,(Value.slice va vn vc).ownBlock=some g→w.heap.size≤g) (fun g hg=>Nat.le_trans DK7.out.beside.size (HOV.out.lt g hg).1)
  have DK9:=Zh (p:=Desk w (v51.setCell ⟨gS,7,none⟩ (Zl va vn vc)) (fun _=>False) C B bef aft l c made N kv tv m [(gD,55,[Z O kind,Z O day,Zs code,Zs other,Z O al,Z O ah,Z O bl,Z O bh]),(gS,49,[Zs code,Z O p1.lo,Z O p1.hi,Z O p2.lo,Z O p2.hi,Z O mx,Z O lb,Zl va vn vc]),(gO,49,[Zs other,Z O dl2,Z O dh2,Z O wl2,Z O wh2,Z O pil2,Z O boi2,Zl fa2 fn2 fc2])]) (DK8.out.setLoc1 1 [Zs code,Z O p1.lo,Z O p1.hi,Z O p2.lo,Z O p2.hi,Z O mx,Z O lb] [] (Zl fa fn fc) (Zl va vn vc) 7 rfl rfl (by decide))
  clear DK8
  generalize World.setCell _ _ _=v52 at DK9 HOV2 ⊢
  have q0:=Zg (DK9.out.at 2 0 (v:=Zs other) rfl rfl)
  refine region_split_below 5 (by kernel_rfl) (by kernel_rfl) (by kernel_rfl) ?_
  simp only [List.take_succ_cons,List.take_zero,List.drop_succ_cons,List.drop_zero]
  repeat(go_big_quiet_step (fail))
  refine wpQuiet_nil ?_
  intro v53 hw'
  have hb8:Below v52.heap.size v52 v53:=by obtain⟨⟨dq,osq⟩,hw''⟩:=hw';rw [hw''];exact Zk v52 dq osq
  clear hw' q0
  have DK10:=Zh (p:=Desk w v53 (fun _=>False) C B bef aft l c made N kv tv m [(gD,55,[Z O kind,Z O day,Zs code,Zs other,Z O al,Z O ah,Z O bl,Z O bh]),(gS,49,[Zs code,Z O p1.lo,Z O p1.hi,Z O p2.lo,Z O p2.hi,Z O mx,Z O lb,Zl va vn vc]),(gO,49,[Zs other,Z O dl2,Z O dh2,Z O wl2,Z O wh2,Z O pil2,Z O boi2,Zl fa2 fn2 fc2])]) (DK9.out.below hb8)
  clear DK9
  have HB8:=Zh hb8;clear hb8
  have HOV3:=Zh (row_same HOV2.out (fun g hg=>HB8.out.block g (row_lt HOV2.out hg)))
  go_upto_region 7 with(go_at_call 104;go_must (refine(drop_calls DK10.out.book other HSO.out HK2.out HP2.out HN.out).mono ?_);rintro e w9 ⟨rfl,hb9,kv9,tv9,hk9⟩;have HB9:=Zh hb9;have HK9:=Zh hk9;clear hb9 hk9)
  have HS9:=Zh (HB9.out.blk (DK10.out.loc 1 _ _ _ rfl).1 (DK10.out.far 1 rfl).2.2.1)
  have s0:=(show w9.cell? ⟨gS,0,none⟩=some (Zs code)from HS9.out.at 0 _ rfl)
  have s1:=(show w9.cell? ⟨gS,1,none⟩=some (Z O p1.lo)from HS9.out.at 1 _ rfl)
  have s2:=(show w9.cell? ⟨gS,2,none⟩=some (Z O p1.hi)from HS9.out.at 2 _ rfl)
  have s3:=(show w9.cell? ⟨gS,3,none⟩=some (Z O p2.lo)from HS9.out.at 3 _ rfl)
  have s4:=(show w9.cell? ⟨gS,4,none⟩=some (Z O p2.hi)from HS9.out.at 4 _ rfl)
  have s5:=(show w9.cell? ⟨gS,5,none⟩=some (Z O mx)from HS9.out.at 5 _ rfl)
  have s6:=(show w9.cell? ⟨gS,6,none⟩=some (Z O lb)from HS9.out.at 6 _ rfl)
  have s7:=(show w9.cell? ⟨gS,7,none⟩=some (Zl va vn vc)from HS9.out.at 7 _ rfl)
  have HQ:=Zh (row_base (row_same HOV3.out (fun g hg=>HB9.out.block g (row_lt HOV3.out hg) (fun hc=>absurd (HC.out g hc) (Nat.not_lt.2 (HFG.out g hg))))))
  have HP9:=Zh (get_less HP.out HNE.out)
  have HK9i:=Zh (p:=ixOf (l.eraseIdx k2) code=some (lessIx k k2)) (ixOf_at (erase_codes DK10.out.book.codes k2) HP9.out)
  go_wp2_with (go_at_call 93;go_must (refine(keep_old HK9.out ⟨code,p1,p2,mx,lb,both src src2⟩ va vn vc HP9.out HK9i.out rfl HQ.out HLB.out).mono ?_);rintro e wa ⟨rfl,hba,hka⟩;have HBA:=Zh hba;have HKA:=Zh hka;clear hba hka)
  go_end0
  have emx:mx=max pil pil2:=by rw [← HMX.out];exact if_max2 pil pil2
  have zlb:=Elb.out;have zp1:=Ep1.out;have zp2:=Ep2.out
  subst zlb zp1 zp2 emx
  refine⟨rfl,((DK10.out.beside.mono (C1:=C) (fun _ f=>f.elim)).trans HB9.out (fun k hk=>.inl hk)).trans HBA.out (fun k hk=>.inl hk),_,kv9,tv9,?_,HKA.out.wide (fun k hk=>.inl hk)⟩
  rw [set_less _ (by simpa using HKL.out) HNE.out]
  simp [List.map_set,map_erase]
theorem merge_same {w:World}{C:Nat→Prop}{B:Nat}{bef aft:Int}{l:List SRow}{c:Yd.Acc}{made:Int}{N:Nat}{kv tv:Value}{m:Nat}(h:Book w C B bef aft l c made N kv tv m)
  (kind day:Int) (code:Code) (al ah bl bh:Int) (hs:code.size≤maxLen) (hC:∀ k,C k→k<w.heap.size) (dl dh wl wh pil boi:Int) (src:List Int) (fa:Option Addr) (fn fc:Nat) {k:Nat} (hk:ixOf l code=some k) (hp:l[k]? = some (⟨code,⟨dl,dh⟩,⟨wl,wh⟩,pil,boi,src⟩,Zl fa fn fc)) :
  Calls Try.prog 89 #[.pointer (some ⟨B,0,none⟩),.agg #[Z O kind,Z O day,Zs code,Zs code,Z O al,Z O ah,Z O bl,Z O bh]] w fun e w'=>e=.panicked (faulty 1)∧Below w.heap.size w w':=by
 have HS:=Zh hs;have HK:=Zh hk;have HP:=Zh hp
 clear hs hk hp
 have DK1:=Zh (boxed_deed h hC [Z O kind,Z O day,Zs code,Zs code,Z O al,Z O ah,Z O bl,Z O bh])
 go_enter Try.func89,Try.ntmps89
 go_upto_region 1 with fail
 generalize World.alloc _ _=w1 at DK1 ⊢
 obtain⟨gD,hgD⟩:∃ g,g=w.heap.size:=⟨_,rfl⟩
 rw [← hgD]at DK1 ⊢
 clear hgD
 go_cut [4,5]from 6 to 13 (fun u v wx => ∃ gS gO:Nat,u=.pointer (some ⟨gS,0,none⟩)∧v=.pointer (some ⟨gO,0,none⟩)∧Hid (Desk w wx (fun _=>False) C B bef aft l c made N kv tv m [(gD,55,[Z O kind,Z O day,Zs code,Zs code,Z O al,Z O ah,Z O bl,Z O bh]),(gS,49,[Zs code,Z O dl,Z O dh,Z O wl,Z O wh,Z O pil,Z O boi,Zl fa fn fc]),(gO,49,[Zs code,Z O dl,Z O dh,Z O wl,Z O wh,Z O pil,Z O boi,Zl fa fn fc])]))
 case first =>
  refine region_till [11] (fun w'=>Blk w' gD 55 #[Z O kind,Z O day,Zs code,Zs code,Z O al,Z O ah,Z O bl,Z O bh]) 12 [false,false,false,false,false,false,false,false,false,false,false,false] (by kernel_rfl) rfl rfl ?_
  have MK2:=fun(W:World) (h:(fun w'=>Blk w' gD 55 #[Z O kind,Z O day,Zs code,Zs code,Z O al,Z O ah,Z O bl,Z O bh]) W)=>Zh h
  have DK2:=Zh (DK1.out.drew)
  clear DK1
  generalize w1.drew=v0 at DK2 ⊢
  have HT:=MK2 v0 ((DK2.out.loc 0 _ _ _ rfl).1)
  refine till_pure (i:=0) (v:=.pointer (some ⟨B,0,none⟩)) rfl rfl (by kernel_rfl) (fun _ _ _ h=>h) (yields_of rfl (fun w' _=>by simp [go_sem])) (fun _=>HT.out) ?_
  simp only [Za,Zb,Zc]
  refine till_pure (i:=1) (v:=.pointer (some ⟨gD,2,none⟩)) rfl rfl (by kernel_rfl) (fun _ _ _ h=>h) (yields_of rfl (fun w' _=>by simp [go_sem])) (fun _=>HT.out) ?_
  simp only [Za,Zb,Zc]
  refine till_load (i:=2) (v:=Zs code) rfl rfl (by kernel_rfl) (fun _ _ _ h=>h) (yields_of rfl (fun w' hw'=>by have hcx:=Blk.at hw' 2 (Zs code) rfl;simp [go_sem,hcx])) (fun _=>HT.out) ?_
  simp only [Za,Zb,Zc]
  refine till_pure (i:=4) (v:=.pointer (some ⟨B,0,none⟩)) rfl rfl (by kernel_rfl) (fun _ _ _ h=>h) (yields_of rfl (fun w' _=>by simp [go_sem])) (fun _=>HT.out) ?_
  simp only [Za,Zb,Zc]
  refine till_pure (i:=5) (v:=.pointer (some ⟨gD,3,none⟩)) rfl rfl (by kernel_rfl) (fun _ _ _ h=>h) (yields_of rfl (fun w' _=>by simp [go_sem])) (fun _=>HT.out) ?_
  simp only [Za,Zb,Zc]
  refine till_load (i:=6) (v:=Zs code) rfl rfl (by kernel_rfl) (fun _ _ _ h=>h) (yields_of rfl (fun w' hw'=>by have hcx:=Blk.at hw' 3 (Zs code) rfl;simp [go_sem,hcx])) (fun _=>HT.out) ?_
  simp only [Za,Zb,Zc]
  refine till_three (i:=3) (j:=8) (k:=9) (by kernel_rfl) rfl rfl rfl ?_ ?_ ?_
  ·go_wp2_with (go_at_call 94;refine(stack_yes DK2.out.book code HS.out HK.out HP.out).mono ?_;rintro e v1 ⟨rfl,hb⟩;have DK3:=Zh (DK2.out.below hb);clear hb)
   have HT:=MK2 v1 ((DK3.out.loc 0 _ _ _ rfl).1)
   refine⟨fun _=>HT.out,?_⟩
   try simp only [Za,Zb,Zc]
   refine till_three (i:=7) (j:=8) (k:=9) (by kernel_rfl) rfl rfl rfl ?_ ?_ ?_
   ·go_wp2_with (go_at_call 94;refine(stack_yes DK3.out.book code HS.out HK.out HP.out).mono ?_;rintro e v2 ⟨rfl,hb⟩;have DK4:=Zh (DK3.out.below hb);clear hb)
    have HT:=MK2 v2 ((DK4.out.loc 0 _ _ _ rfl).1)
    refine⟨fun _=>HT.out,?_⟩
    try simp only [Za,Zb,Zc]
    refine till_two (i:=8) (j:=9) (by kernel_rfl) rfl rfl ?_ ?_
    ·go_wp2_with fail
     have DK5:=Zh (p:=Desk w (v2.alloc (.cells #[Zs ⟨#[]⟩,Z O 0,Z O 0,Z O 0,Z O 0,Z O 0,Z O 0,Zl none 0 0] 49)) (fun _=>False) C B bef aft l c made N kv tv m [(gD,55,[Z O kind,Z O day,Zs code,Zs code,Z O al,Z O ah,Z O bl,Z O bh]),(v2.heap.size,49,[Zs ⟨#[]⟩,Z O 0,Z O 0,Z O 0,Z O 0,Z O 0,Z O 0,Zl none 0 0])]) (DK4.out.alloc 49 [Zs ⟨#[]⟩,Z O 0,Z O 0,Z O 0,Z O 0,Z O 0,Z O 0,Zl none 0 0] rfl)
     generalize World.alloc _ _=v3 at DK5 ⊢
     generalize v2.heap.size=gS at DK5 ⊢
     have HT:=MK2 v3 ((DK5.out.loc 0 _ _ _ rfl).1)
     refine⟨fun _=>HT.out,?_⟩
     try simp only [Za,Zb,Zc]
     refine till_only (j:=9) (by kernel_rfl) rfl ?_
     go_wp2_with fail
     have DK6:=Zh (p:=Desk w (v3.alloc (.cells #[Zs ⟨#[]⟩,Z O 0,Z O 0,Z O 0,Z O 0,Z O 0,Z O 0,Zl none 0 0] 49)) (fun _=>False) C B bef aft l c made N kv tv m [(gD,55,[Z O kind,Z O day,Zs code,Zs code,Z O al,Z O ah,Z O bl,Z O bh]),(gS,49,[Zs ⟨#[]⟩,Z O 0,Z O 0,Z O 0,Z O 0,Z O 0,Z O 0,Zl none 0 0]),(v3.heap.size,49,[Zs ⟨#[]⟩,Z O 0,Z O 0,Z O 0,Z O 0,Z O 0,Z O 0,Zl none 0 0])]) (DK5.out.alloc 49 [Zs ⟨#[]⟩,Z O 0,Z O 0,Z O 0,Z O 0,Z O 0,Z O 0,Zl none 0 0] rfl)
     generalize World.alloc _ _=v4 at DK6 ⊢
     generalize v3.heap.size=gO at DK6 ⊢
     have HT:=MK2 v4 ((DK6.out.loc 0 _ _ _ rfl).1)
     refine⟨fun _=>HT.out,?_⟩
     try simp only [Za,Zb,Zc]
     refine till_only (j:=10) (by kernel_rfl) rfl ?_
     have HE:=Zh (p:=v4.there gS 0 8) ((DK6.out.loc 1 _ _ _ rfl).1.there (o:=0) (n:=8) (Zn rfl))
     refine Zw rfl 49 (.tmp 4) (.tmp 9) rfl gS 0 #[Zs code,Z O dl,Z O dh,Z O wl,Z O wh,Z O pil,Z O boi,Zl fa fn fc] rfl rfl HE.out size_stack (by simp [Value.oneCell']) ?_
     change wpList _ _ _ _ _ (v4.setCells gS 0 [Zs code,Z O dl,Z O dh,Z O wl,Z O wh,Z O pil,Z O boi,Zl fa fn fc])
     clear HE
     have DK7:=Zh (p:=Desk w (v4.setCells gS 0 [Zs code,Z O dl,Z O dh,Z O wl,Z O wh,Z O pil,Z O boi,Zl fa fn fc]) (fun _=>False) C B bef aft l c made N kv tv m [(gD,55,[Z O kind,Z O day,Zs code,Zs code,Z O al,Z O ah,Z O bl,Z O bh]),(gS,49,[Zs code,Z O dl,Z O dh,Z O wl,Z O wh,Z O pil,Z O boi,Zl fa fn fc]),(gO,49,[Zs ⟨#[]⟩,Z O 0,Z O 0,Z O 0,Z O 0,Z O 0,Z O 0,Zl none 0 0])]) (DK6.out.put 1 0 _ rfl)
     clear DK6
     generalize World.setCells _ _ _ _=v5 at DK7 ⊢
     change Till _ _ _ _∧wpAnyT _ _ _ _ _ _ _ _ _ _
     have HT:=MK2 v5 ((DK7.out.loc 0 _ _ _ rfl).1)
     refine⟨fun _=>HT.out,?_⟩
     try simp only [Za,Zb,Zc]
     refine till_only (j:=11) (by kernel_rfl) rfl ?_
     have HE:=Zh (p:=v5.there gO 0 8) ((DK7.out.loc 2 _ _ _ rfl).1.there (o:=0) (n:=8) (Zn rfl))
     refine Zw rfl 49 (.tmp 5) (.tmp 13) rfl gO 0 #[Zs code,Z O dl,Z O dh,Z O wl,Z O wh,Z O pil,Z O boi,Zl fa fn fc] rfl rfl HE.out size_stack (by simp [Value.oneCell']) ?_
     change wpList _ _ _ _ _ (v5.setCells gO 0 [Zs code,Z O dl,Z O dh,Z O wl,Z O wh,Z O pil,Z O boi,Zl fa fn fc])
     clear HE
     have DK8:=Zh (p:=Desk w (v5.setCells gO 0 [Zs code,Z O dl,Z O dh,Z O wl,Z O wh,Z O pil,Z O boi,Zl fa fn fc]) (fun _=>False) C B bef aft l c made N kv tv m [(gD,55,[Z O kind,Z O day,Zs code,Zs code,Z O al,Z O ah,Z O bl,Z O bh]),(gS,49,[Zs code,Z O dl,Z O dh,Z O wl,Z O wh,Z O pil,Z O boi,Zl fa fn fc]),(gO,49,[Zs code,Z O dl,Z O dh,Z O wl,Z O wh,Z O pil,Z O boi,Zl fa fn fc])]) (DK7.out.put 2 0 _ rfl)
     clear DK7
     generalize World.setCells _ _ _ _=v6 at DK8 ⊢
     change Till _ _ _ _∧wpAnyT _ _ _ _ _ _ _ _ _ _
     refine⟨fun h=>by simp at h,?_⟩
     try simp only [Za,Zb,Zc]
     refine till_done (by kernel_rfl) ?_
     go_wp2_with fail
     go_meet
     case rel=>exact⟨_,_,rfl,rfl,DK8⟩
    ·go_wp2_with fail
     have DK5:=Zh (p:=Desk w (v2.alloc (.cells #[Zs ⟨#[]⟩,Z O 0,Z O 0,Z O 0,Z O 0,Z O 0,Z O 0,Zl none 0 0] 49)) (fun _=>False) C B bef aft l c made N kv tv m [(gD,55,[Z O kind,Z O day,Zs code,Zs code,Z O al,Z O ah,Z O bl,Z O bh]),(v2.heap.size,49,[Zs ⟨#[]⟩,Z O 0,Z O 0,Z O 0,Z O 0,Z O 0,Z O 0,Zl none 0 0])]) (DK4.out.alloc 49 [Zs ⟨#[]⟩,Z O 0,Z O 0,Z O 0,Z O 0,Z O 0,Z O 0,Zl none 0 0] rfl)
     generalize World.alloc _ _=v3 at DK5 ⊢
     generalize v2.heap.size=gO at DK5 ⊢
     have HT:=MK2 v3 ((DK5.out.loc 0 _ _ _ rfl).1)
     refine⟨fun _=>HT.out,?_⟩
     try simp only [Za,Zb,Zc]
     refine till_only (j:=8) (by kernel_rfl) rfl ?_
     go_wp2_with fail
     have DK6:=Zh (p:=Desk w (v3.alloc (.cells #[Zs ⟨#[]⟩,Z O 0,Z O 0,Z O 0,Z O 0,Z O 0,Z O 0,Zl none 0 0] 49)) (fun _=>False) C B bef aft l c made N kv tv m [(gD,55,[Z O kind,Z O day,Zs code,Zs code,Z O al,Z O ah,Z O bl,Z O bh]),(gO,49,[Zs ⟨#[]⟩,Z O 0,Z O 0,Z O 0,Z O 0,Z O 0,Z O 0,Zl none 0 0]),(v3.heap.size,49,[Zs ⟨#[]⟩,Z O 0,Z O 0,Z O 0,Z O 0,Z O 0,Z O 0,Zl none 0 0])]) (DK5.out.alloc 49 [Zs ⟨#[]⟩,Z O 0,Z O 0,Z O 0,Z O 0,Z O 0,Z O 0,Zl none 0 0] rfl)
     generalize World.alloc _ _=v4 at DK6 ⊢
     generalize v3.heap.size=gS at DK6 ⊢
     have HT:=MK2 v4 ((DK6.out.loc 0 _ _ _ rfl).1)
     refine⟨fun _=>HT.out,?_⟩
     try simp only [Za,Zb,Zc]
     refine till_only (j:=10) (by kernel_rfl) rfl ?_
     have HE:=Zh (p:=v4.there gS 0 8) ((DK6.out.loc 2 _ _ _ rfl).1.there (o:=0) (n:=8) (Zn rfl))
     refine Zw rfl 49 (.tmp 4) (.tmp 9) rfl gS 0 #[Zs code,Z O dl,Z O dh,Z O wl,Z O wh,Z O pil,Z O boi,Zl fa fn fc] rfl rfl HE.out size_stack (by simp [Value.oneCell']) ?_
     change wpList _ _ _ _ _ (v4.setCells gS 0 [Zs code,Z O dl,Z O dh,Z O wl,Z O wh,Z O pil,Z O boi,Zl fa fn fc])
     clear HE
     have DK7:=Zh (p:=Desk w (v4.setCells gS 0 [Zs code,Z O dl,Z O dh,Z O wl,Z O wh,Z O pil,Z O boi,Zl fa fn fc]) (fun _=>False) C B bef aft l c made N kv tv m [(gD,55,[Z O kind,Z O day,Zs code,Zs code,Z O al,Z O ah,Z O bl,Z O bh]),(gO,49,[Zs ⟨#[]⟩,Z O 0,Z O 0,Z O 0,Z O 0,Z O 0,Z O 0,Zl none 0 0]),(gS,49,[Zs code,Z O dl,Z O dh,Z O wl,Z O wh,Z O pil,Z O boi,Zl fa fn fc])]) (DK6.out.put 2 0 _ rfl)
     clear DK6
     generalize World.setCells _ _ _ _=v5 at DK7 ⊢
     change Till _ _ _ _∧wpAnyT _ _ _ _ _ _ _ _ _ _
     have HT:=MK2 v5 ((DK7.out.loc 0 _ _ _ rfl).1)
     refine⟨fun _=>HT.out,?_⟩
     try simp only [Za,Zb,Zc]
     refine till_only (j:=11) (by kernel_rfl) rfl ?_
     have HE:=Zh (p:=v5.there gO 0 8) ((DK7.out.loc 1 _ _ _ rfl).1.there (o:=0) (n:=8) (Zn rfl))
     refine Zw rfl 49 (.tmp 5) (.tmp 13) rfl gO 0 #[Zs code,Z O dl,Z O dh,Z O wl,Z O wh,Z O pil,Z O boi,Zl fa fn fc] rfl rfl HE.out size_stack (by simp [Value.oneCell']) ?_
     change wpList _ _ _ _ _ (v5.setCells gO 0 [Zs code,Z O dl,Z O dh,Z O wl,Z O wh,Z O pil,Z O boi,Zl fa fn fc])
     clear HE
     have DK8:=Zh (p:=Desk w (v5.setCells gO 0 [Zs code,Z O dl,Z O dh,Z O wl,Z O wh,Z O pil,Z O boi,Zl fa fn fc]) (fun _=>False) C B bef aft l c made N kv tv m [(gD,55,[Z O kind,Z O day,Zs code,Zs code,Z O al,Z O ah,Z O bl,Z O bh]),(gO,49,[Zs code,Z O dl,Z O dh,Z O wl,Z O wh,Z O pil,Z O boi,Zl fa fn fc]),(gS,49,[Zs code,Z O dl,Z O dh,Z O wl,Z O wh,Z O pil,Z O boi,Zl fa fn fc])]) (DK7.out.put 1 0 _ rfl)
     clear DK7
     generalize World.setCells _ _ _ _=v6 at DK8 ⊢
     change Till _ _ _ _∧wpAnyT _ _ _ _ _ _ _ _ _ _
     refine⟨fun h=>by simp at h,?_⟩
     try simp only [Za,Zb,Zc]
     refine till_done (by kernel_rfl) ?_
     go_wp2_with fail
     go_meet
     case rel=>exact⟨_,_,rfl,rfl,Zh DK8.out.swap⟩
   ·go_wp2_with fail
    have DK4:=Zh (p:=Desk w (v1.alloc (.cells #[Zs ⟨#[]⟩,Z O 0,Z O 0,Z O 0,Z O 0,Z O 0,Z O 0,Zl none 0 0] 49)) (fun _=>False) C B bef aft l c made N kv tv m [(gD,55,[Z O kind,Z O day,Zs code,Zs code,Z O al,Z O ah,Z O bl,Z O bh]),(v1.heap.size,49,[Zs ⟨#[]⟩,Z O 0,Z O 0,Z O 0,Z O 0,Z O 0,Z O 0,Zl none 0 0])]) (DK3.out.alloc 49 [Zs ⟨#[]⟩,Z O 0,Z O 0,Z O 0,Z O 0,Z O 0,Z O 0,Zl none 0 0] rfl)
    generalize World.alloc _ _=v2 at DK4 ⊢
    generalize v1.heap.size=gS at DK4 ⊢
    have HT:=MK2 v2 ((DK4.out.loc 0 _ _ _ rfl).1)
    refine⟨fun _=>HT.out,?_⟩
    try simp only [Za,Zb,Zc]
    refine till_two (i:=7) (j:=9) (by kernel_rfl) rfl rfl ?_ ?_
    ·go_wp2_with (go_at_call 94;refine(stack_yes DK4.out.book code HS.out HK.out HP.out).mono ?_;rintro e v3 ⟨rfl,hb⟩;have DK5:=Zh (DK4.out.below hb);clear hb)
     have HT:=MK2 v3 ((DK5.out.loc 0 _ _ _ rfl).1)
     refine⟨fun _=>HT.out,?_⟩
     try simp only [Za,Zb,Zc]
     refine till_only (j:=9) (by kernel_rfl) rfl ?_
     go_wp2_with fail
     have DK6:=Zh (p:=Desk w (v3.alloc (.cells #[Zs ⟨#[]⟩,Z O 0,Z O 0,Z O 0,Z O 0,Z O 0,Z O 0,Zl none 0 0] 49)) (fun _=>False) C B bef aft l c made N kv tv m [(gD,55,[Z O kind,Z O day,Zs code,Zs code,Z O al,Z O ah,Z O bl,Z O bh]),(gS,49,[Zs ⟨#[]⟩,Z O 0,Z O 0,Z O 0,Z O 0,Z O 0,Z O 0,Zl none 0 0]),(v3.heap.size,49,[Zs ⟨#[]⟩,Z O 0,Z O 0,Z O 0,Z O 0,Z O 0,Z O 0,Zl none 0 0])]) (DK5.out.alloc 49 [Zs ⟨#[]⟩,Z O 0,Z O 0,Z O 0,Z O 0,Z O 0,Z O 0,Zl none 0 0] rfl)
     generalize World.alloc _ _=v4 at DK6 ⊢
     generalize v3.heap.size=gO at DK6 ⊢
     have HT:=MK2 v4 ((DK6.out.loc 0 _ _ _ rfl).1)
     refine⟨fun _=>HT.out,?_⟩
     try simp only [Za,Zb,Zc]
     refine till_only (j:=10) (by kernel_rfl) rfl ?_
     have HE:=Zh (p:=v4.there gS 0 8) ((DK6.out.loc 1 _ _ _ rfl).1.there (o:=0) (n:=8) (Zn rfl))
     refine Zw rfl 49 (.tmp 4) (.tmp 9) rfl gS 0 #[Zs code,Z O dl,Z O dh,Z O wl,Z O wh,Z O pil,Z O boi,Zl fa fn fc] rfl rfl HE.out size_stack (by simp [Value.oneCell']) ?_
     change wpList _ _ _ _ _ (v4.setCells gS 0 [Zs code,Z O dl,Z O dh,Z O wl,Z O wh,Z O pil,Z O boi,Zl fa fn fc])
     clear HE
     have DK7:=Zh (p:=Desk w (v4.setCells gS 0 [Zs code,Z O dl,Z O dh,Z O wl,Z O wh,Z O pil,Z O boi,Zl fa fn fc]) (fun _=>False) C B bef aft l c made N kv tv m [(gD,55,[Z O kind,Z O day,Zs code,Zs code,Z O al,Z O ah,Z O bl,Z O bh]),(gS,49,[Zs code,Z O dl,Z O dh,Z O wl,Z O wh,Z O pil,Z O boi,Zl fa fn fc]),(gO,49,[Zs ⟨#[]⟩,Z O 0,Z O 0,Z O 0,Z O 0,Z O 0,Z O 0,Zl none 0 0])]) (DK6.out.put 1 0 _ rfl)
     clear DK6
     generalize World.setCells _ _ _ _=v5 at DK7 ⊢
     change Till _ _ _ _∧wpAnyT _ _ _ _ _ _ _ _ _ _
     have HT:=MK2 v5 ((DK7.out.loc 0 _ _ _ rfl).1)
     refine⟨fun _=>HT.out,?_⟩
     try simp only [Za,Zb,Zc]
     refine till_only (j:=11) (by kernel_rfl) rfl ?_
     have HE:=Zh (p:=v5.there gO 0 8) ((DK7.out.loc 2 _ _ _ rfl).1.there (o:=0) (n:=8) (Zn rfl))
     refine Zw rfl 49 (.tmp 5) (.tmp 13) rfl gO 0 #[Zs code,Z O dl,Z O dh,Z O wl,Z O wh,Z O pil,Z O boi,Zl fa fn fc] rfl rfl HE.out size_stack (by simp [Value.oneCell']) ?_
     change wpList _ _ _ _ _ (v5.setCells gO 0 [Zs code,Z O dl,Z O dh,Z O wl,Z O wh,Z O pil,Z O boi,Zl fa fn fc])
     clear HE
     have DK8:=Zh (p:=Desk w (v5.setCells gO 0 [Zs code,Z O dl,Z O dh,Z O wl,Z O wh,Z O pil,Z O boi,Zl fa fn fc]) (fun _=>False) C B bef aft l c made N kv tv m [(gD,55,[Z O kind,Z O day,Zs code,Zs code,Z O al,Z O ah,Z O bl,Z O bh]),(gS,49,[Zs code,Z O dl,Z O dh,Z O wl,Z O wh,Z O pil,Z O boi,Zl fa fn fc]),(gO,49,[Zs code,Z O dl,Z O dh,Z O wl,Z O wh,Z O pil,Z O boi,Zl fa fn fc])]) (DK7.out.put 2 0 _ rfl)
     clear DK7
     generalize World.setCells _ _ _ _=v6 at DK8 ⊢
     change Till _ _ _ _∧wpAnyT _ _ _ _ _ _ _ _ _ _
     refine⟨fun h=>by simp at h,?_⟩
     try simp only [Za,Zb,Zc]
     refine till_done (by kernel_rfl) ?_
     go_wp2_with fail
     go_meet
     case rel=>exact⟨_,_,rfl,rfl,DK8⟩
    ·go_wp2_with fail
     have DK5:=Zh (p:=Desk w (v2.alloc (.cells #[Zs ⟨#[]⟩,Z O 0,Z O 0,Z O 0,Z O 0,Z O 0,Z O 0,Zl none 0 0] 49)) (fun _=>False) C B bef aft l c made N kv tv m [(gD,55,[Z O kind,Z O day,Zs code,Zs code,Z O al,Z O ah,Z O bl,Z O bh]),(gS,49,[Zs ⟨#[]⟩,Z O 0,Z O 0,Z O 0,Z O 0,Z O 0,Z O 0,Zl none 0 0]),(v2.heap.size,49,[Zs ⟨#[]⟩,Z O 0,Z O 0,Z O 0,Z O 0,Z O 0,Z O 0,Zl none 0 0])]) (DK4.out.alloc 49 [Zs ⟨#[]⟩,Z O 0,Z O 0,Z O 0,Z O 0,Z O 0,Z O 0,Zl none 0 0] rfl)
     generalize World.alloc _ _=v3 at DK5 ⊢
     generalize v2.heap.size=gO at DK5 ⊢
     have HT:=MK2 v3 ((DK5.out.loc 0 _ _ _ rfl).1)
     refine⟨fun _=>HT.out,?_⟩
     try simp only [Za,Zb,Zc]
     refine till_only (j:=7) (by kernel_rfl) rfl ?_
     go_wp2_with (go_at_call 94;refine(stack_yes DK5.out.book code HS.out HK.out HP.out).mono ?_;rintro e v4 ⟨rfl,hb⟩;have DK6:=Zh (DK5.out.below hb);clear hb)
     have HT:=MK2 v4 ((DK6.out.loc 0 _ _ _ rfl).1)
     refine⟨fun _=>HT.out,?_⟩
     try simp only [Za,Zb,Zc]
     refine till_only (j:=10) (by kernel_rfl) rfl ?_
     have HE:=Zh (p:=v4.there gS 0 8) ((DK6.out.loc 1 _ _ _ rfl).1.there (o:=0) (n:=8) (Zn rfl))
     refine Zw rfl 49 (.tmp 4) (.tmp 9) rfl gS 0 #[Zs code,Z O dl,Z O dh,Z O wl,Z O wh,Z O pil,Z O boi,Zl fa fn fc] rfl rfl HE.out size_stack (by simp [Value.oneCell']) ?_
     change wpList _ _ _ _ _ (v4.setCells gS 0 [Zs code,Z O dl,Z O dh,Z O wl,Z O wh,Z O pil,Z O boi,Zl fa fn fc])
     clear HE
     have DK7:=Zh (p:=Desk w (v4.setCells gS 0 [Zs code,Z O dl,Z O dh,Z O wl,Z O wh,Z O pil,Z O boi,Zl fa fn fc]) (fun _=>False) C B bef aft l c made N kv tv m [(gD,55,[Z O kind,Z O day,Zs code,Zs code,Z O al,Z O ah,Z O bl,Z O bh]),(gS,49,[Zs code,Z O dl,Z O dh,Z O wl,Z O wh,Z O pil,Z O boi,Zl fa fn fc]),(gO,49,[Zs ⟨#[]⟩,Z O 0,Z O 0,Z O 0,Z O 0,Z O 0,Z O 0,Zl none 0 0])]) (DK6.out.put 1 0 _ rfl)
     clear DK6
     generalize World.setCells _ _ _ _=v5 at DK7 ⊢
     change Till _ _ _ _∧wpAnyT _ _ _ _ _ _ _ _ _ _
     have HT:=MK2 v5 ((DK7.out.loc 0 _ _ _ rfl).1)
     refine⟨fun _=>HT.out,?_⟩
     try simp only [Za,Zb,Zc]
     refine till_only (j:=11) (by kernel_rfl) rfl ?_
     have HE:=Zh (p:=v5.there gO 0 8) ((DK7.out.loc 2 _ _ _ rfl).1.there (o:=0) (n:=8) (Zn rfl))
     refine Zw rfl 49 (.tmp 5) (.tmp 13) rfl gO 0 #[Zs code,Z O dl,Z O dh,Z O wl,Z O wh,Z O pil,Z O boi,Zl fa fn fc] rfl rfl HE.out size_stack (by simp [Value.oneCell']) ?_
     change wpList _ _ _ _ _ (v5.setCells gO 0 [Zs code,Z O dl,Z O dh,Z O wl,Z O wh,Z O pil,Z O boi,Zl fa fn fc])
     clear HE
     have DK8:=Zh (p:=Desk w (v5.setCells gO 0 [Zs code,Z O dl,Z O dh,Z O wl,Z O wh,Z O pil,Z O boi,Zl fa fn fc]) (fun _=>False) C B bef aft l c made N kv tv m [(gD,55,[Z O kind,Z O day,Zs code,Zs code,Z O al,Z O ah,Z O bl,Z O bh]),(gS,49,[Zs code,Z O dl,Z O dh,Z O wl,Z O wh,Z O pil,Z O boi,Zl fa fn fc]),(gO,49,[Zs code,Z O dl,Z O dh,Z O wl,Z O wh,Z O pil,Z O boi,Zl fa fn fc])]) (DK7.out.put 2 0 _ rfl)
     clear DK7
     generalize World.setCells _ _ _ _=v6 at DK8 ⊢
     change Till _ _ _ _∧wpAnyT _ _ _ _ _ _ _ _ _ _
     refine⟨fun h=>by simp at h,?_⟩
     try simp only [Za,Zb,Zc]
     refine till_done (by kernel_rfl) ?_
     go_wp2_with fail
     go_meet
     case rel=>exact⟨_,_,rfl,rfl,DK8⟩
   ·go_wp2_with fail
    have DK4:=Zh (p:=Desk w (v1.alloc (.cells #[Zs ⟨#[]⟩,Z O 0,Z O 0,Z O 0,Z O 0,Z O 0,Z O 0,Zl none 0 0] 49)) (fun _=>False) C B bef aft l c made N kv tv m [(gD,55,[Z O kind,Z O day,Zs code,Zs code,Z O al,Z O ah,Z O bl,Z O bh]),(v1.heap.size,49,[Zs ⟨#[]⟩,Z O 0,Z O 0,Z O 0,Z O 0,Z O 0,Z O 0,Zl none 0 0])]) (DK3.out.alloc 49 [Zs ⟨#[]⟩,Z O 0,Z O 0,Z O 0,Z O 0,Z O 0,Z O 0,Zl none 0 0] rfl)
    generalize World.alloc _ _=v2 at DK4 ⊢
    generalize v1.heap.size=gO at DK4 ⊢
    have HT:=MK2 v2 ((DK4.out.loc 0 _ _ _ rfl).1)
    refine⟨fun _=>HT.out,?_⟩
    try simp only [Za,Zb,Zc]
    refine till_two (i:=7) (j:=8) (by kernel_rfl) rfl rfl ?_ ?_
    ·go_wp2_with (go_at_call 94;refine(stack_yes DK4.out.book code HS.out HK.out HP.out).mono ?_;rintro e v3 ⟨rfl,hb⟩;have DK5:=Zh (DK4.out.below hb);clear hb)
     have HT:=MK2 v3 ((DK5.out.loc 0 _ _ _ rfl).1)
     refine⟨fun _=>HT.out,?_⟩
     try simp only [Za,Zb,Zc]
     refine till_only (j:=8) (by kernel_rfl) rfl ?_
     go_wp2_with fail
     have DK6:=Zh (p:=Desk w (v3.alloc (.cells #[Zs ⟨#[]⟩,Z O 0,Z O 0,Z O 0,Z O 0,Z O 0,Z O 0,Zl none 0 0] 49)) (fun _=>False) C B bef aft l c made N kv tv m [(gD,55,[Z O kind,Z O day,Zs code,Zs code,Z O al,Z O ah,Z O bl,Z O bh]),(gO,49,[Zs ⟨#[]⟩,Z O 0,Z O 0,Z O 0,Z O 0,Z O 0,Z O 0,Zl none 0 0]),(v3.heap.size,49,[Zs ⟨#[]⟩,Z O 0,Z O 0,Z O 0,Z O 0,Z O 0,Z O 0,Zl none 0 0])]) (DK5.out.alloc 49 [Zs ⟨#[]⟩,Z O 0,Z O 0,Z O 0,Z O 0,Z O 0,Z O 0,Zl none 0 0] rfl)
     generalize World.alloc _ _=v4 at DK6 ⊢
     generalize v3.heap.size=gS at DK6 ⊢
     have HT:=MK2 v4 ((DK6.out.loc 0 _ _ _ rfl).1)
     refine⟨fun _=>HT.out,?_⟩
     try simp only [Za,Zb,Zc]
     refine till_only (j:=10) (by kernel_rfl) rfl ?_
     have HE:=Zh (p:=v4.there gS 0 8) ((DK6.out.loc 2 _ _ _ rfl).1.there (o:=0) (n:=8) (Zn rfl))
     refine Zw rfl 49 (.tmp 4) (.tmp 9) rfl gS 0 #[Zs code,Z O dl,Z O dh,Z O wl,Z O wh,Z O pil,Z O boi,Zl fa fn fc] rfl rfl HE.out size_stack (by simp [Value.oneCell']) ?_
     change wpList _ _ _ _ _ (v4.setCells gS 0 [Zs code,Z O dl,Z O dh,Z O wl,Z O wh,Z O pil,Z O boi,Zl fa fn fc])
     clear HE
     have DK7:=Zh (p:=Desk w (v4.setCells gS 0 [Zs code,Z O dl,Z O dh,Z O wl,Z O wh,Z O pil,Z O boi,Zl fa fn fc]) (fun _=>False) C B bef aft l c made N kv tv m [(gD,55,[Z O kind,Z O day,Zs code,Zs code,Z O al,Z O ah,Z O bl,Z O bh]),(gO,49,[Zs ⟨#[]⟩,Z O 0,Z O 0,Z O 0,Z O 0,Z O 0,Z O 0,Zl none 0 0]),(gS,49,[Zs code,Z O dl,Z O dh,Z O wl,Z O wh,Z O pil,Z O boi,Zl fa fn fc])]) (DK6.out.put 2 0 _ rfl)
     clear DK6
     generalize World.setCells _ _ _ _=v5 at DK7 ⊢
     change Till _ _ _ _∧wpAnyT _ _ _ _ _ _ _ _ _ _
     have HT:=MK2 v5 ((DK7.out.loc 0 _ _ _ rfl).1)
     refine⟨fun _=>HT.out,?_⟩
     try simp only [Za,Zb,Zc]
     refine till_only (j:=11) (by kernel_rfl) rfl ?_
     have HE:=Zh (p:=v5.there gO 0 8) ((DK7.out.loc 1 _ _ _ rfl).1.there (o:=0) (n:=8) (Zn rfl))
     refine Zw rfl 49 (.tmp 5) (.tmp 13) rfl gO 0 #[Zs code,Z O dl,Z O dh,Z O wl,Z O wh,Z O pil,Z O boi,Zl fa fn fc] rfl rfl HE.out size_stack (by simp [Value.oneCell']) ?_
     change wpList _ _ _ _ _ (v5.setCells gO 0 [Zs code,Z O dl,Z O dh,Z O wl,Z O wh,Z O pil,Z O boi,Zl fa fn fc])
     clear HE
     have DK8:=Zh (p:=Desk w (v5.setCells gO 0 [Zs code,Z O dl,Z O dh,Z O wl,Z O wh,Z O pil,Z O boi,Zl fa fn fc]) (fun _=>False) C B bef aft l c made N kv tv m [(gD,55,[Z O kind,Z O day,Zs code,Zs code,Z O al,Z O ah,Z O bl,Z O bh]),(gO,49,[Zs code,Z O dl,Z O dh,Z O wl,Z O wh,Z O pil,Z O boi,Zl fa fn fc]),(gS,49,[Zs code,Z O dl,Z O dh,Z O wl,Z O wh,Z O pil,Z O boi,Zl fa fn fc])]) (DK7.out.put 1 0 _ rfl)
     clear DK7
     generalize World.setCells _ _ _ _=v6 at DK8 ⊢
     change Till _ _ _ _∧wpAnyT _ _ _ _ _ _ _ _ _ _
     refine⟨fun h=>by simp at h,?_⟩
     try simp only [Za,Zb,Zc]
     refine till_done (by kernel_rfl) ?_
     go_wp2_with fail
     go_meet
     case rel=>exact⟨_,_,rfl,rfl,Zh DK8.out.swap⟩
    ·go_wp2_with fail
     have DK5:=Zh (p:=Desk w (v2.alloc (.cells #[Zs ⟨#[]⟩,Z O 0,Z O 0,Z O 0,Z O 0,Z O 0,Z O 0,Zl none 0 0] 49)) (fun _=>False) C B bef aft l c made N kv tv m [(gD,55,[Z O kind,Z O day,Zs code,Zs code,Z O al,Z O ah,Z O bl,Z O bh]),(gO,49,[Zs ⟨#[]⟩,Z O 0,Z O 0,Z O 0,Z O 0,Z O 0,Z O 0,Zl none 0 0]),(v2.heap.size,49,[Zs ⟨#[]⟩,Z O 0,Z O 0,Z O 0,Z O 0,Z O 0,Z O 0,Zl none 0 0])]) (DK4.out.alloc 49 [Zs ⟨#[]⟩,Z O 0,Z O 0,Z O 0,Z O 0,Z O 0,Z O 0,Zl none 0 0] rfl)
     generalize World.alloc _ _=v3 at DK5 ⊢
     generalize v2.heap.size=gS at DK5 ⊢
     have HT:=MK2 v3 ((DK5.out.loc 0 _ _ _ rfl).1)
     refine⟨fun _=>HT.out,?_⟩
     try simp only [Za,Zb,Zc]
     refine till_only (j:=7) (by kernel_rfl) rfl ?_
     go_wp2_with (go_at_call 94;refine(stack_yes DK5.out.book code HS.out HK.out HP.out).mono ?_;rintro e v4 ⟨rfl,hb⟩;have DK6:=Zh (DK5.out.below hb);clear hb)
     have HT:=MK2 v4 ((DK6.out.loc 0 _ _ _ rfl).1)
     refine⟨fun _=>HT.out,?_⟩
     try simp only [Za,Zb,Zc]
     refine till_only (j:=10) (by kernel_rfl) rfl ?_
     have HE:=Zh (p:=v4.there gS 0 8) ((DK6.out.loc 2 _ _ _ rfl).1.there (o:=0) (n:=8) (Zn rfl))
     refine Zw rfl 49 (.tmp 4) (.tmp 9) rfl gS 0 #[Zs code,Z O dl,Z O dh,Z O wl,Z O wh,Z O pil,Z O boi,Zl fa fn fc] rfl rfl HE.out size_stack (by simp [Value.oneCell']) ?_
     change wpList _ _ _ _ _ (v4.setCells gS 0 [Zs code,Z O dl,Z O dh,Z O wl,Z O wh,Z O pil,Z O boi,Zl fa fn fc])
     clear HE
     have DK7:=Zh (p:=Desk w (v4.setCells gS 0 [Zs code,Z O dl,Z O dh,Z O wl,Z O wh,Z O pil,Z O boi,Zl fa fn fc]) (fun _=>False) C B bef aft l c made N kv tv m [(gD,55,[Z O kind,Z O day,Zs code,Zs code,Z O al,Z O ah,Z O bl,Z O bh]),(gO,49,[Zs ⟨#[]⟩,Z O 0,Z O 0,Z O 0,Z O 0,Z O 0,Z O 0,Zl none 0 0]),(gS,49,[Zs code,Z O dl,Z O dh,Z O wl,Z O wh,Z O pil,Z O boi,Zl fa fn fc])]) (DK6.out.put 2 0 _ rfl)
     clear DK6
     generalize World.setCells _ _ _ _=v5 at DK7 ⊢
     change Till _ _ _ _∧wpAnyT _ _ _ _ _ _ _ _ _ _
     have HT:=MK2 v5 ((DK7.out.loc 0 _ _ _ rfl).1)
     refine⟨fun _=>HT.out,?_⟩
     try simp only [Za,Zb,Zc]
     refine till_only (j:=11) (by kernel_rfl) rfl ?_
     have HE:=Zh (p:=v5.there gO 0 8) ((DK7.out.loc 1 _ _ _ rfl).1.there (o:=0) (n:=8) (Zn rfl))
     refine Zw rfl 49 (.tmp 5) (.tmp 13) rfl gO 0 #[Zs code,Z O dl,Z O dh,Z O wl,Z O wh,Z O pil,Z O boi,Zl fa fn fc] rfl rfl HE.out size_stack (by simp [Value.oneCell']) ?_
     change wpList _ _ _ _ _ (v5.setCells gO 0 [Zs code,Z O dl,Z O dh,Z O wl,Z O wh,Z O pil,Z O boi,Zl fa fn fc])
     clear HE
     have DK8:=Zh (p:=Desk w (v5.setCells gO 0 [Zs code,Z O dl,Z O dh,Z O wl,Z O wh,Z O pil,Z O boi,Zl fa fn fc]) (fun _=>False) C B bef aft l c made N kv tv m [(gD,55,[Z O kind,Z O day,Zs code,Zs code,Z O al,Z O ah,Z O bl,Z O bh]),(gO,49,[Zs code,Z O dl,Z O dh,Z O wl,Z O wh,Z O pil,Z O boi,Zl fa fn fc]),(gS,49,[Zs code,Z O dl,Z O dh,Z O wl,Z O wh,Z O pil,Z O boi,Zl fa fn fc])]) (DK7.out.put 1 0 _ rfl)
     clear DK7
     generalize World.setCells _ _ _ _=v6 at DK8 ⊢
     change Till _ _ _ _∧wpAnyT _ _ _ _ _ _ _ _ _ _
     refine⟨fun h=>by simp at h,?_⟩
     try simp only [Za,Zb,Zc]
     refine till_done (by kernel_rfl) ?_
     go_wp2_with fail
     go_meet
     case rel=>exact⟨_,_,rfl,rfl,Zh DK8.out.swap⟩
  ·go_wp2_with fail
   have DK3:=Zh (p:=Desk w (v0.alloc (.cells #[Zs ⟨#[]⟩,Z O 0,Z O 0,Z O 0,Z O 0,Z O 0,Z O 0,Zl none 0 0] 49)) (fun _=>False) C B bef aft l c made N kv tv m [(gD,55,[Z O kind,Z O day,Zs code,Zs code,Z O al,Z O ah,Z O bl,Z O bh]),(v0.heap.size,49,[Zs ⟨#[]⟩,Z O 0,Z O 0,Z O 0,Z O 0,Z O 0,Z O 0,Zl none 0 0])]) (DK2.out.alloc 49 [Zs ⟨#[]⟩,Z O 0,Z O 0,Z O 0,Z O 0,Z O 0,Z O 0,Zl none 0 0] rfl)
   generalize World.alloc _ _=v1 at DK3 ⊢
   generalize v0.heap.size=gS at DK3 ⊢
   have HT:=MK2 v1 ((DK3.out.loc 0 _ _ _ rfl).1)
   refine⟨fun _=>HT.out,?_⟩
   try simp only [Za,Zb,Zc]
   refine till_two (i:=3) (j:=9) (by kernel_rfl) rfl rfl ?_ ?_
   ·go_wp2_with (go_at_call 94;refine(stack_yes DK3.out.book code HS.out HK.out HP.out).mono ?_;rintro e v2 ⟨rfl,hb⟩;have DK4:=Zh (DK3.out.below hb);clear hb)
    have HT:=MK2 v2 ((DK4.out.loc 0 _ _ _ rfl).1)
    refine⟨fun _=>HT.out,?_⟩
    try simp only [Za,Zb,Zc]
    refine till_two (i:=7) (j:=9) (by kernel_rfl) rfl rfl ?_ ?_
    ·go_wp2_with (go_at_call 94;refine(stack_yes DK4.out.book code HS.out HK.out HP.out).mono ?_;rintro e v3 ⟨rfl,hb⟩;have DK5:=Zh (DK4.out.below hb);clear hb)
     have HT:=MK2 v3 ((DK5.out.loc 0 _ _ _ rfl).1)
     refine⟨fun _=>HT.out,?_⟩
     try simp only [Za,Zb,Zc]
     refine till_only (j:=9) (by kernel_rfl) rfl ?_
     go_wp2_with fail
     have DK6:=Zh (p:=Desk w (v3.alloc (.cells #[Zs ⟨#[]⟩,Z O 0,Z O 0,Z O 0,Z O 0,Z O 0,Z O 0,Zl none 0 0] 49)) (fun _=>False) C B bef aft l c made N kv tv m [(gD,55,[Z O kind,Z O day,Zs code,Zs code,Z O al,Z O ah,Z O bl,Z O bh]),(gS,49,[Zs ⟨#[]⟩,Z O 0,Z O 0,Z O 0,Z O 0,Z O 0,Z O 0,Zl none 0 0]),(v3.heap.size,49,[Zs ⟨#[]⟩,Z O 0,Z O 0,Z O 0,Z O 0,Z O 0,Z O 0,Zl none 0 0])]) (DK5.out.alloc 49 [Zs ⟨#[]⟩,Z O 0,Z O 0,Z O 0,Z O 0,Z O 0,Z O 0,Zl none 0 0] rfl)
     generalize World.alloc _ _=v4 at DK6 ⊢
     generalize v3.heap.size=gO at DK6 ⊢
     have HT:=MK2 v4 ((DK6.out.loc 0 _ _ _ rfl).1)
     refine⟨fun _=>HT.out,?_⟩
     try simp only [Za,Zb,Zc]
     refine till_only (j:=10) (by kernel_rfl) rfl ?_
     have HE:=Zh (p:=v4.there gS 0 8) ((DK6.out.loc 1 _ _ _ rfl).1.there (o:=0) (n:=8) (Zn rfl))
     refine Zw rfl 49 (.tmp 4) (.tmp 9) rfl gS 0 #[Zs code,Z O dl,Z O dh,Z O wl,Z O wh,Z O pil,Z O boi,Zl fa fn fc] rfl rfl HE.out size_stack (by simp [Value.oneCell']) ?_
     change wpList _ _ _ _ _ (v4.setCells gS 0 [Zs code,Z O dl,Z O dh,Z O wl,Z O wh,Z O pil,Z O boi,Zl fa fn fc])
     clear HE
     have DK7:=Zh (p:=Desk w (v4.setCells gS 0 [Zs code,Z O dl,Z O dh,Z O wl,Z O wh,Z O pil,Z O boi,Zl fa fn fc]) (fun _=>False) C B bef aft l c made N kv tv m [(gD,55,[Z O kind,Z O day,Zs code,Zs code,Z O al,Z O ah,Z O bl,Z O bh]),(gS,49,[Zs code,Z O dl,Z O dh,Z O wl,Z O wh,Z O pil,Z O boi,Zl fa fn fc]),(gO,49,[Zs ⟨#[]⟩,Z O 0,Z O 0,Z O 0,Z O 0,Z O 0,Z O 0,Zl none 0 0])]) (DK6.out.put 1 0 _ rfl)
     clear DK6
     generalize World.setCells _ _ _ _=v5 at DK7 ⊢
     change Till _ _ _ _∧wpAnyT _ _ _ _ _ _ _ _ _ _
     have HT:=MK2 v5 ((DK7.out.loc 0 _ _ _ rfl).1)
     refine⟨fun _=>HT.out,?_⟩
     try simp only [Za,Zb,Zc]
     refine till_only (j:=11) (by kernel_rfl) rfl ?_
     have HE:=Zh (p:=v5.there gO 0 8) ((DK7.out.loc 2 _ _ _ rfl).1.there (o:=0) (n:=8) (Zn rfl))
     refine Zw rfl 49 (.tmp 5) (.tmp 13) rfl gO 0 #[Zs code,Z O dl,Z O dh,Z O wl,Z O wh,Z O pil,Z O boi,Zl fa fn fc] rfl rfl HE.out size_stack (by simp [Value.oneCell']) ?_
     change wpList _ _ _ _ _ (v5.setCells gO 0 [Zs code,Z O dl,Z O dh,Z O wl,Z O wh,Z O pil,Z O boi,Zl fa fn fc])
     clear HE
     have DK8:=Zh (p:=Desk w (v5.setCells gO 0 [Zs code,Z O dl,Z O dh,Z O wl,Z O wh,Z O pil,Z O boi,Zl fa fn fc]) (fun _=>False) C B bef aft l c made N kv tv m [(gD,55,[Z O kind,Z O day,Zs code,Zs code,Z O al,Z O ah,Z O bl,Z O bh]),(gS,49,[Zs code,Z O dl,Z O dh,Z O wl,Z O wh,Z O pil,Z O boi,Zl fa fn fc]),(gO,49,[Zs code,Z O dl,Z O dh,Z O wl,Z O wh,Z O pil,Z O boi,Zl fa fn fc])]) (DK7.out.put 2 0 _ rfl)
     clear DK7
     generalize World.setCells _ _ _ _=v6 at DK8 ⊢
     change Till _ _ _ _∧wpAnyT _ _ _ _ _ _ _ _ _ _
     refine⟨fun h=>by simp at h,?_⟩
     try simp only [Za,Zb,Zc]
     refine till_done (by kernel_rfl) ?_
     go_wp2_with fail
     go_meet
     case rel=>exact⟨_,_,rfl,rfl,DK8⟩
    ·go_wp2_with fail
     have DK5:=Zh (p:=Desk w (v2.alloc (.cells #[Zs ⟨#[]⟩,Z O 0,Z O 0,Z O 0,Z O 0,Z O 0,Z O 0,Zl none 0 0] 49)) (fun _=>False) C B bef aft l c made N kv tv m [(gD,55,[Z O kind,Z O day,Zs code,Zs code,Z O al,Z O ah,Z O bl,Z O bh]),(gS,49,[Zs ⟨#[]⟩,Z O 0,Z O 0,Z O 0,Z O 0,Z O 0,Z O 0,Zl none 0 0]),(v2.heap.size,49,[Zs ⟨#[]⟩,Z O 0,Z O 0,Z O 0,Z O 0,Z O 0,Z O 0,Zl none 0 0])]) (DK4.out.alloc 49 [Zs ⟨#[]⟩,Z O 0,Z O 0,Z O 0,Z O 0,Z O 0,Z O 0,Zl none 0 0] rfl)
     generalize World.alloc _ _=v3 at DK5 ⊢
     generalize v2.heap.size=gO at DK5 ⊢
     have HT:=MK2 v3 ((DK5.out.loc 0 _ _ _ rfl).1)
     refine⟨fun _=>HT.out,?_⟩
     try simp only [Za,Zb,Zc]
     refine till_only (j:=7) (by kernel_rfl) rfl ?_
     go_wp2_with (go_at_call 94;refine(stack_yes DK5.out.book code HS.out HK.out HP.out).mono ?_;rintro e v4 ⟨rfl,hb⟩;have DK6:=Zh (DK5.out.below hb);clear hb)
     have HT:=MK2 v4 ((DK6.out.loc 0 _ _ _ rfl).1)
     refine⟨fun _=>HT.out,?_⟩
     try simp only [Za,Zb,Zc]
     refine till_only (j:=10) (by kernel_rfl) rfl ?_
     have HE:=Zh (p:=v4.there gS 0 8) ((DK6.out.loc 1 _ _ _ rfl).1.there (o:=0) (n:=8) (Zn rfl))
     refine Zw rfl 49 (.tmp 4) (.tmp 9) rfl gS 0 #[Zs code,Z O dl,Z O dh,Z O wl,Z O wh,Z O pil,Z O boi,Zl fa fn fc] rfl rfl HE.out size_stack (by simp [Value.oneCell']) ?_
     change wpList _ _ _ _ _ (v4.setCells gS 0 [Zs code,Z O dl,Z O dh,Z O wl,Z O wh,Z O pil,Z O boi,Zl fa fn fc])
     clear HE
     have DK7:=Zh (p:=Desk w (v4.setCells gS 0 [Zs code,Z O dl,Z O dh,Z O wl,Z O wh,Z O pil,Z O boi,Zl fa fn fc]) (fun _=>False) C B bef aft l c made N kv tv m [(gD,55,[Z O kind,Z O day,Zs code,Zs code,Z O al,Z O ah,Z O bl,Z O bh]),(gS,49,[Zs code,Z O dl,Z O dh,Z O wl,Z O wh,Z O pil,Z O boi,Zl fa fn fc]),(gO,49,[Zs ⟨#[]⟩,Z O 0,Z O 0,Z O 0,Z O 0,Z O 0,Z O 0,Zl none 0 0])]) (DK6.out.put 1 0 _ rfl)
     clear DK6
     generalize World.setCells _ _ _ _=v5 at DK7 ⊢
     change Till _ _ _ _∧wpAnyT _ _ _ _ _ _ _ _ _ _
     have HT:=MK2 v5 ((DK7.out.loc 0 _ _ _ rfl).1)
     refine⟨fun _=>HT.out,?_⟩
     try simp only [Za,Zb,Zc]
     refine till_only (j:=11) (by kernel_rfl) rfl ?_
     have HE:=Zh (p:=v5.there gO 0 8) ((DK7.out.loc 2 _ _ _ rfl).1.there (o:=0) (n:=8) (Zn rfl))
     refine Zw rfl 49 (.tmp 5) (.tmp 13) rfl gO 0 #[Zs code,Z O dl,Z O dh,Z O wl,Z O wh,Z O pil,Z O boi,Zl fa fn fc] rfl rfl HE.out size_stack (by simp [Value.oneCell']) ?_
     change wpList _ _ _ _ _ (v5.setCells gO 0 [Zs code,Z O dl,Z O dh,Z O wl,Z O wh,Z O pil,Z O boi,Zl fa fn fc])
     clear HE
     have DK8:=Zh (p:=Desk w (v5.setCells gO 0 [Zs code,Z O dl,Z O dh,Z O wl,Z O wh,Z O pil,Z O boi,Zl fa fn fc]) (fun _=>False) C B bef aft l c made N kv tv m [(gD,55,[Z O kind,Z O day,Zs code,Zs code,Z O al,Z O ah,Z O bl,Z O bh]),(gS,49,[Zs code,Z O dl,Z O dh,Z O wl,Z O wh,Z O pil,Z O boi,Zl fa fn fc]),(gO,49,[Zs code,Z O dl,Z O dh,Z O wl,Z O wh,Z O pil,Z O boi,Zl fa fn fc])]) (DK7.out.put 2 0 _ rfl)
     clear DK7
     generalize World.setCells _ _ _ _=v6 at DK8 ⊢
     change Till _ _ _ _∧wpAnyT _ _ _ _ _ _ _ _ _ _
     refine⟨fun h=>by simp at h,?_⟩
     try simp only [Za,Zb,Zc]
     refine till_done (by kernel_rfl) ?_
     go_wp2_with fail
     go_meet
     case rel=>exact⟨_,_,rfl,rfl,DK8⟩
   ·go_wp2_with fail
    have DK4:=Zh (p:=Desk w (v1.alloc (.cells #[Zs ⟨#[]⟩,Z O 0,Z O 0,Z O 0,Z O 0,Z O 0,Z O 0,Zl none 0 0] 49)) (fun _=>False) C B bef aft l c made N kv tv m [(gD,55,[Z O kind,Z O day,Zs code,Zs code,Z O al,Z O ah,Z O bl,Z O bh]),(gS,49,[Zs ⟨#[]⟩,Z O 0,Z O 0,Z O 0,Z O 0,Z O 0,Z O 0,Zl none 0 0]),(v1.heap.size,49,[Zs ⟨#[]⟩,Z O 0,Z O 0,Z O 0,Z O 0,Z O 0,Z O 0,Zl none 0 0])]) (DK3.out.alloc 49 [Zs ⟨#[]⟩,Z O 0,Z O 0,Z O 0,Z O 0,Z O 0,Z O 0,Zl none 0 0] rfl)
    generalize World.alloc _ _=v2 at DK4 ⊢
    generalize v1.heap.size=gO at DK4 ⊢
    have HT:=MK2 v2 ((DK4.out.loc 0 _ _ _ rfl).1)
    refine⟨fun _=>HT.out,?_⟩
    try simp only [Za,Zb,Zc]
    refine till_only (j:=3) (by kernel_rfl) rfl ?_
    go_wp2_with (go_at_call 94;refine(stack_yes DK4.out.book code HS.out HK.out HP.out).mono ?_;rintro e v3 ⟨rfl,hb⟩;have DK5:=Zh (DK4.out.below hb);clear hb)
    have HT:=MK2 v3 ((DK5.out.loc 0 _ _ _ rfl).1)
    refine⟨fun _=>HT.out,?_⟩
    try simp only [Za,Zb,Zc]
    refine till_only (j:=7) (by kernel_rfl) rfl ?_
    go_wp2_with (go_at_call 94;refine(stack_yes DK5.out.book code HS.out HK.out HP.out).mono ?_;rintro e v4 ⟨rfl,hb⟩;have DK6:=Zh (DK5.out.below hb);clear hb)
    have HT:=MK2 v4 ((DK6.out.loc 0 _ _ _ rfl).1)
    refine⟨fun _=>HT.out,?_⟩
    try simp only [Za,Zb,Zc]
    refine till_only (j:=10) (by kernel_rfl) rfl ?_
    have HE:=Zh (p:=v4.there gS 0 8) ((DK6.out.loc 1 _ _ _ rfl).1.there (o:=0) (n:=8) (Zn rfl))
    refine Zw rfl 49 (.tmp 4) (.tmp 9) rfl gS 0 #[Zs code,Z O dl,Z O dh,Z O wl,Z O wh,Z O pil,Z O boi,Zl fa fn fc] rfl rfl HE.out size_stack (by simp [Value.oneCell']) ?_
    change wpList _ _ _ _ _ (v4.setCells gS 0 [Zs code,Z O dl,Z O dh,Z O wl,Z O wh,Z O pil,Z O boi,Zl fa fn fc])
    clear HE
    have DK7:=Zh (p:=Desk w (v4.setCells gS 0 [Zs code,Z O dl,Z O dh,Z O wl,Z O wh,Z O pil,Z O boi,Zl fa fn fc]) (fun _=>False) C B bef aft l c made N kv tv m [(gD,55,[Z O kind,Z O day,Zs code,Zs code,Z O al,Z O ah,Z O bl,Z O bh]),(gS,49,[Zs code,Z O dl,Z O dh,Z O wl,Z O wh,Z O pil,Z O boi,Zl fa fn fc]),(gO,49,[Zs ⟨#[]⟩,Z O 0,Z O 0,Z O 0,Z O 0,Z O 0,Z O 0,Zl none 0 0])]) (DK6.out.put 1 0 _ rfl)
    clear DK6
    generalize World.setCells _ _ _ _=v5 at DK7 ⊢
    change Till _ _ _ _∧wpAnyT _ _ _ _ _ _ _ _ _ _
    have HT:=MK2 v5 ((DK7.out.loc 0 _ _ _ rfl).1)
    refine⟨fun _=>HT.out,?_⟩
    try simp only [Za,Zb,Zc]
    refine till_only (j:=11) (by kernel_rfl) rfl ?_
    have HE:=Zh (p:=v5.there gO 0 8) ((DK7.out.loc 2 _ _ _ rfl).1.there (o:=0) (n:=8) (Zn rfl))
    refine Zw rfl 49 (.tmp 5) (.tmp 13) rfl gO 0 #[Zs code,Z O dl,Z O dh,Z O wl,Z O wh,Z O pil,Z O boi,Zl fa fn fc] rfl rfl HE.out size_stack (by simp [Value.oneCell']) ?_
    change wpList _ _ _ _ _ (v5.setCells gO 0 [Zs code,Z O dl,Z O dh,Z O wl,Z O wh,Z O pil,Z O boi,Zl fa fn fc])
    clear HE
    have DK8:=Zh (p:=Desk w (v5.setCells gO 0 [Zs code,Z O dl,Z O dh,Z O wl,Z O wh,Z O pil,Z O boi,Zl fa fn fc]) (fun _=>False) C B bef aft l c made N kv tv m [(gD,55,[Z O kind,Z O day,Zs code,Zs code,Z O al,Z O ah,Z O bl,Z O bh]),(gS,49,[Zs code,Z O dl,Z O dh,Z O wl,Z O wh,Z O pil,Z O boi,Zl fa fn fc]),(gO,49,[Zs code,Z O dl,Z O dh,Z O wl,Z O wh,Z O pil,Z O boi,Zl fa fn fc])]) (DK7.out.put 2 0 _ rfl)
    clear DK7
    generalize World.setCells _ _ _ _=v6 at DK8 ⊢
    change Till _ _ _ _∧wpAnyT _ _ _ _ _ _ _ _ _ _
    refine⟨fun h=>by simp at h,?_⟩
    try simp only [Za,Zb,Zc]
    refine till_done (by kernel_rfl) ?_
    go_wp2_with fail
    go_meet
    case rel=>exact⟨_,_,rfl,rfl,DK8⟩
  ·go_wp2_with fail
   have DK3:=Zh (p:=Desk w (v0.alloc (.cells #[Zs ⟨#[]⟩,Z O 0,Z O 0,Z O 0,Z O 0,Z O 0,Z O 0,Zl none 0 0] 49)) (fun _=>False) C B bef aft l c made N kv tv m [(gD,55,[Z O kind,Z O day,Zs code,Zs code,Z O al,Z O ah,Z O bl,Z O bh]),(v0.heap.size,49,[Zs ⟨#[]⟩,Z O 0,Z O 0,Z O 0,Z O 0,Z O 0,Z O 0,Zl none 0 0])]) (DK2.out.alloc 49 [Zs ⟨#[]⟩,Z O 0,Z O 0,Z O 0,Z O 0,Z O 0,Z O 0,Zl none 0 0] rfl)
   generalize World.alloc _ _=v1 at DK3 ⊢
   generalize v0.heap.size=gO at DK3 ⊢
   have HT:=MK2 v1 ((DK3.out.loc 0 _ _ _ rfl).1)
   refine⟨fun _=>HT.out,?_⟩
   try simp only [Za,Zb,Zc]
   refine till_two (i:=3) (j:=8) (by kernel_rfl) rfl rfl ?_ ?_
   ·go_wp2_with (go_at_call 94;refine(stack_yes DK3.out.book code HS.out HK.out HP.out).mono ?_;rintro e v2 ⟨rfl,hb⟩;have DK4:=Zh (DK3.out.below hb);clear hb)
    have HT:=MK2 v2 ((DK4.out.loc 0 _ _ _ rfl).1)
    refine⟨fun _=>HT.out,?_⟩
    try simp only [Za,Zb,Zc]
    refine till_two (i:=7) (j:=8) (by kernel_rfl) rfl rfl ?_ ?_
    ·go_wp2_with (go_at_call 94;refine(stack_yes DK4.out.book code HS.out HK.out HP.out).mono ?_;rintro e v3 ⟨rfl,hb⟩;have DK5:=Zh (DK4.out.below hb);clear hb)
     have HT:=MK2 v3 ((DK5.out.loc 0 _ _ _ rfl).1)
     refine⟨fun _=>HT.out,?_⟩
     try simp only [Za,Zb,Zc]
     refine till_only (j:=8) (by kernel_rfl) rfl ?_
     go_wp2_with fail
     have DK6:=Zh (p:=Desk w (v3.alloc (.cells #[Zs ⟨#[]⟩,Z O 0,Z O 0,Z O 0,Z O 0,Z O 0,Z O 0,Zl none 0 0] 49)) (fun _=>False) C B bef aft l c made N kv tv m [(gD,55,[Z O kind,Z O day,Zs code,Zs code,Z O al,Z O ah,Z O bl,Z O bh]),(gO,49,[Zs ⟨#[]⟩,Z O 0,Z O 0,Z O 0,Z O 0,Z O 0,Z O 0,Zl none 0 0]),(v3.heap.size,49,[Zs ⟨#[]⟩,Z O 0,Z O 0,Z O 0,Z O 0,Z O 0,Z O 0,Zl none 0 0])]) (DK5.out.alloc 49 [Zs ⟨#[]⟩,Z O 0,Z O 0,Z O 0,Z O 0,Z O 0,Z O 0,Zl none 0 0] rfl)
     generalize World.alloc _ _=v4 at DK6 ⊢
     generalize v3.heap.size=gS at DK6 ⊢
     have HT:=MK2 v4 ((DK6.out.loc 0 _ _ _ rfl).1)
     refine⟨fun _=>HT.out,?_⟩
     try simp only [Za,Zb,Zc]
     refine till_only (j:=10) (by kernel_rfl) rfl ?_
     have HE:=Zh (p:=v4.there gS 0 8) ((DK6.out.loc 2 _ _ _ rfl).1.there (o:=0) (n:=8) (Zn rfl))
     refine Zw rfl 49 (.tmp 4) (.tmp 9) rfl gS 0 #[Zs code,Z O dl,Z O dh,Z O wl,Z O wh,Z O pil,Z O boi,Zl fa fn fc] rfl rfl HE.out size_stack (by simp [Value.oneCell']) ?_
     change wpList _ _ _ _ _ (v4.setCells gS 0 [Zs code,Z O dl,Z O dh,Z O wl,Z O wh,Z O pil,Z O boi,Zl fa fn fc])
     clear HE
     have DK7:=Zh (p:=Desk w (v4.setCells gS 0 [Zs code,Z O dl,Z O dh,Z O wl,Z O wh,Z O pil,Z O boi,Zl fa fn fc]) (fun _=>False) C B bef aft l c made N kv tv m [(gD,55,[Z O kind,Z O day,Zs code,Zs code,Z O al,Z O ah,Z O bl,Z O bh]),(gO,49,[Zs ⟨#[]⟩,Z O 0,Z O 0,Z O 0,Z O 0,Z O 0,Z O 0,Zl none 0 0]),(gS,49,[Zs code,Z O dl,Z O dh,Z O wl,Z O wh,Z O pil,Z O boi,Zl fa fn fc])]) (DK6.out.put 2 0 _ rfl)
     clear DK6
     generalize World.setCells _ _ _ _=v5 at DK7 ⊢
     change Till _ _ _ _∧wpAnyT _ _ _ _ _ _ _ _ _ _
     have HT:=MK2 v5 ((DK7.out.loc 0 _ _ _ rfl).1)
     refine⟨fun _=>HT.out,?_⟩
     try simp only [Za,Zb,Zc]
     refine till_only (j:=11) (by kernel_rfl) rfl ?_
     have HE:=Zh (p:=v5.there gO 0 8) ((DK7.out.loc 1 _ _ _ rfl).1.there (o:=0) (n:=8) (Zn rfl))
     refine Zw rfl 49 (.tmp 5) (.tmp 13) rfl gO 0 #[Zs code,Z O dl,Z O dh,Z O wl,Z O wh,Z O pil,Z O boi,Zl fa fn fc] rfl rfl HE.out size_stack (by simp [Value.oneCell']) ?_
     change wpList _ _ _ _ _ (v5.setCells gO 0 [Zs code,Z O dl,Z O dh,Z O wl,Z O wh,Z O pil,Z O boi,Zl fa fn fc])
     clear HE
     have DK8:=Zh (p:=Desk w (v5.setCells gO 0 [Zs code,Z O dl,Z O dh,Z O wl,Z O wh,Z O pil,Z O boi,Zl fa fn fc]) (fun _=>False) C B bef aft l c made N kv tv m [(gD,55,[Z O kind,Z O day,Zs code,Zs code,Z O al,Z O ah,Z O bl,Z O bh]),(gO,49,[Zs code,Z O dl,Z O dh,Z O wl,Z O wh,Z O pil,Z O boi,Zl fa fn fc]),(gS,49,[Zs code,Z O dl,Z O dh,Z O wl,Z O wh,Z O pil,Z O boi,Zl fa fn fc])]) (DK7.out.put 1 0 _ rfl)
     clear DK7
     generalize World.setCells _ _ _ _=v6 at DK8 ⊢
     change Till _ _ _ _∧wpAnyT _ _ _ _ _ _ _ _ _ _
     refine⟨fun h=>by simp at h,?_⟩
     try simp only [Za,Zb,Zc]
     refine till_done (by kernel_rfl) ?_
     go_wp2_with fail
     go_meet
     case rel=>exact⟨_,_,rfl,rfl,Zh DK8.out.swap⟩
    ·go_wp2_with fail
     have DK5:=Zh (p:=Desk w (v2.alloc (.cells #[Zs ⟨#[]⟩,Z O 0,Z O 0,Z O 0,Z O 0,Z O 0,Z O 0,Zl none 0 0] 49)) (fun _=>False) C B bef aft l c made N kv tv m [(gD,55,[Z O kind,Z O day,Zs code,Zs code,Z O al,Z O ah,Z O bl,Z O bh]),(gO,49,[Zs ⟨#[]⟩,Z O 0,Z O 0,Z O 0,Z O 0,Z O 0,Z O 0,Zl none 0 0]),(v2.heap.size,49,[Zs ⟨#[]⟩,Z O 0,Z O 0,Z O 0,Z O 0,Z O 0,Z O 0,Zl none 0 0])]) (DK4.out.alloc 49 [Zs ⟨#[]⟩,Z O 0,Z O 0,Z O 0,Z O 0,Z O 0,Z O 0,Zl none 0 0] rfl)
     generalize World.alloc _ _=v3 at DK5 ⊢
     generalize v2.heap.size=gS at DK5 ⊢
     have HT:=MK2 v3 ((DK5.out.loc 0 _ _ _ rfl).1)
     refine⟨fun _=>HT.out,?_⟩
     try simp only [Za,Zb,Zc]
     refine till_only (j:=7) (by kernel_rfl) rfl ?_
     go_wp2_with (go_at_call 94;refine(stack_yes DK5.out.book code HS.out HK.out HP.out).mono ?_;rintro e v4 ⟨rfl,hb⟩;have DK6:=Zh (DK5.out.below hb);clear hb)
     have HT:=MK2 v4 ((DK6.out.loc 0 _ _ _ rfl).1)
     refine⟨fun _=>HT.out,?_⟩
     try simp only [Za,Zb,Zc]
     refine till_only (j:=10) (by kernel_rfl) rfl ?_
     have HE:=Zh (p:=v4.there gS 0 8) ((DK6.out.loc 2 _ _ _ rfl).1.there (o:=0) (n:=8) (Zn rfl))
     refine Zw rfl 49 (.tmp 4) (.tmp 9) rfl gS 0 #[Zs code,Z O dl,Z O dh,Z O wl,Z O wh,Z O pil,Z O boi,Zl fa fn fc] rfl rfl HE.out size_stack (by simp [Value.oneCell']) ?_
     change wpList _ _ _ _ _ (v4.setCells gS 0 [Zs code,Z O dl,Z O dh,Z O wl,Z O wh,Z O pil,Z O boi,Zl fa fn fc])
     clear HE
     have DK7:=Zh (p:=Desk w (v4.setCells gS 0 [Zs code,Z O dl,Z O dh,Z O wl,Z O wh,Z O pil,Z O boi,Zl fa fn fc]) (fun _=>False) C B bef aft l c made N kv tv m [(gD,55,[Z O kind,Z O day,Zs code,Zs code,Z O al,Z O ah,Z O bl,Z O bh]),(gO,49,[Zs ⟨#[]⟩,Z O 0,Z O 0,Z O 0,Z O 0,Z O 0,Z O 0,Zl none 0 0]),(gS,49,[Zs code,Z O dl,Z O dh,Z O wl,Z O wh,Z O pil,Z O boi,Zl fa fn fc])]) (DK6.out.put 2 0 _ rfl)
     clear DK6
     generalize World.setCells _ _ _ _=v5 at DK7 ⊢
     change Till _ _ _ _∧wpAnyT _ _ _ _ _ _ _ _ _ _
     have HT:=MK2 v5 ((DK7.out.loc 0 _ _ _ rfl).1)
     refine⟨fun _=>HT.out,?_⟩
     try simp only [Za,Zb,Zc]
     refine till_only (j:=11) (by kernel_rfl) rfl ?_
     have HE:=Zh (p:=v5.there gO 0 8) ((DK7.out.loc 1 _ _ _ rfl).1.there (o:=0) (n:=8) (Zn rfl))
     refine Zw rfl 49 (.tmp 5) (.tmp 13) rfl gO 0 #[Zs code,Z O dl,Z O dh,Z O wl,Z O wh,Z O pil,Z O boi,Zl fa fn fc] rfl rfl HE.out size_stack (by simp [Value.oneCell']) ?_
     change wpList _ _ _ _ _ (v5.setCells gO 0 [Zs code,Z O dl,Z O dh,Z O wl,Z O wh,Z O pil,Z O boi,Zl fa fn fc])
     clear HE
     have DK8:=Zh (p:=Desk w (v5.setCells gO 0 [Zs code,Z O dl,Z O dh,Z O wl,Z O wh,Z O pil,Z O boi,Zl fa fn fc]) (fun _=>False) C B bef aft l c made N kv tv m [(gD,55,[Z O kind,Z O day,Zs code,Zs code,Z O al,Z O ah,Z O bl,Z O bh]),(gO,49,[Zs code,Z O dl,Z O dh,Z O wl,Z O wh,Z O pil,Z O boi,Zl fa fn fc]),(gS,49,[Zs code,Z O dl,Z O dh,Z O wl,Z O wh,Z O pil,Z O boi,Zl fa fn fc])]) (DK7.out.put 1 0 _ rfl)
     clear DK7
     generalize World.setCells _ _ _ _=v6 at DK8 ⊢
     change Till _ _ _ _∧wpAnyT _ _ _ _ _ _ _ _ _ _
     refine⟨fun h=>by simp at h,?_⟩
     try simp only [Za,Zb,Zc]
     refine till_done (by kernel_rfl) ?_
     go_wp2_with fail
     go_meet
     case rel=>exact⟨_,_,rfl,rfl,Zh DK8.out.swap⟩
   ·go_wp2_with fail
    have DK4:=Zh (p:=Desk w (v1.alloc (.cells #[Zs ⟨#[]⟩,Z O 0,Z O 0,Z O 0,Z O 0,Z O 0,Z O 0,Zl none 0 0] 49)) (fun _=>False) C B bef aft l c made N kv tv m [(gD,55,[Z O kind,Z O day,Zs code,Zs code,Z O al,Z O ah,Z O bl,Z O bh]),(gO,49,[Zs ⟨#[]⟩,Z O 0,Z O 0,Z O 0,Z O 0,Z O 0,Z O 0,Zl none 0 0]),(v1.heap.size,49,[Zs ⟨#[]⟩,Z O 0,Z O 0,Z O 0,Z O 0,Z O 0,Z O 0,Zl none 0 0])]) (DK3.out.alloc 49 [Zs ⟨#[]⟩,Z O 0,Z O 0,Z O 0,Z O 0,Z O 0,Z O 0,Zl none 0 0] rfl)
    generalize World.alloc _ _=v2 at DK4 ⊢
    generalize v1.heap.size=gS at DK4 ⊢
    have HT:=MK2 v2 ((DK4.out.loc 0 _ _ _ rfl).1)
    refine⟨fun _=>HT.out,?_⟩
    try simp only [Za,Zb,Zc]
    refine till_only (j:=3) (by kernel_rfl) rfl ?_
    go_wp2_with (go_at_call 94;refine(stack_yes DK4.out.book code HS.out HK.out HP.out).mono ?_;rintro e v3 ⟨rfl,hb⟩;have DK5:=Zh (DK4.out.below hb);clear hb)
    have HT:=MK2 v3 ((DK5.out.loc 0 _ _ _ rfl).1)
    refine⟨fun _=>HT.out,?_⟩
    try simp only [Za,Zb,Zc]
    refine till_only (j:=7) (by kernel_rfl) rfl ?_
    go_wp2_with (go_at_call 94;refine(stack_yes DK5.out.book code HS.out HK.out HP.out).mono ?_;rintro e v4 ⟨rfl,hb⟩;have DK6:=Zh (DK5.out.below hb);clear hb)
    have HT:=MK2 v4 ((DK6.out.loc 0 _ _ _ rfl).1)
    refine⟨fun _=>HT.out,?_⟩
    try simp only [Za,Zb,Zc]
    refine till_only (j:=10) (by kernel_rfl) rfl ?_
    have HE:=Zh (p:=v4.there gS 0 8) ((DK6.out.loc 2 _ _ _ rfl).1.there (o:=0) (n:=8) (Zn rfl))
    refine Zw rfl 49 (.tmp 4) (.tmp 9) rfl gS 0 #[Zs code,Z O dl,Z O dh,Z O wl,Z O wh,Z O pil,Z O boi,Zl fa fn fc] rfl rfl HE.out size_stack (by simp [Value.oneCell']) ?_
    change wpList _ _ _ _ _ (v4.setCells gS 0 [Zs code,Z O dl,Z O dh,Z O wl,Z O wh,Z O pil,Z O boi,Zl fa fn fc])
    clear HE
    have DK7:=Zh (p:=Desk w (v4.setCells gS 0 [Zs code,Z O dl,Z O dh,Z O wl,Z O wh,Z O pil,Z O boi,Zl fa fn fc]) (fun _=>False) C B bef aft l c made N kv tv m [(gD,55,[Z O kind,Z O day,Zs code,Zs code,Z O al,Z O ah,Z O bl,Z O bh]),(gO,49,[Zs ⟨#[]⟩,Z O 0,Z O 0,Z O 0,Z O 0,Z O 0,Z O 0,Zl none 0 0]),(gS,49,[Zs code,Z O dl,Z O dh,Z O wl,Z O wh,Z O pil,Z O boi,Zl fa fn fc])]) (DK6.out.put 2 0 _ rfl)
    clear DK6
    generalize World.setCells _ _ _ _=v5 at DK7 ⊢
    change Till _ _ _ _∧wpAnyT _ _ _ _ _ _ _ _ _ _
    have HT:=MK2 v5 ((DK7.out.loc 0 _ _ _ rfl).1)
    refine⟨fun _=>HT.out,?_⟩
    try simp only [Za,Zb,Zc]
    refine till_only (j:=11) (by kernel_rfl) rfl ?_
    have HE:=Zh (p:=v5.there gO 0 8) ((DK7.out.loc 1 _ _ _ rfl).1.there (o:=0) (n:=8) (Zn rfl))
    refine Zw rfl 49 (.tmp 5) (.tmp 13) rfl gO 0 #[Zs code,Z O dl,Z O dh,Z O wl,Z O wh,Z O pil,Z O boi,Zl fa fn fc] rfl rfl HE.out size_stack (by simp [Value.oneCell']) ?_
    change wpList _ _ _ _ _ (v5.setCells gO 0 [Zs code,Z O dl,Z O dh,Z O wl,Z O wh,Z O pil,Z O boi,Zl fa fn fc])
    clear HE
    have DK8:=Zh (p:=Desk w (v5.setCells gO 0 [Zs code,Z O dl,Z O dh,Z O wl,Z O wh,Z O pil,Z O boi,Zl fa fn fc]) (fun _=>False) C B bef aft l c made N kv tv m [(gD,55,[Z O kind,Z O day,Zs code,Zs code,Z O al,Z O ah,Z O bl,Z O bh]),(gO,49,[Zs code,Z O dl,Z O dh,Z O wl,Z O wh,Z O pil,Z O boi,Zl fa fn fc]),(gS,49,[Zs code,Z O dl,Z O dh,Z O wl,Z O wh,Z O pil,Z O boi,Zl fa fn fc])]) (DK7.out.put 1 0 _ rfl)
    clear DK7
    generalize World.setCells _ _ _ _=v6 at DK8 ⊢
    change Till _ _ _ _∧wpAnyT _ _ _ _ _ _ _ _ _ _
    refine⟨fun h=>by simp at h,?_⟩
    try simp only [Za,Zb,Zc]
    refine till_done (by kernel_rfl) ?_
    go_wp2_with fail
    go_meet
    case rel=>exact⟨_,_,rfl,rfl,Zh DK8.out.swap⟩
 case rest =>
  obtain⟨gS,gO,rfl,rfl,DK2⟩:=hcut
  clear DK1
  have t2:=DK2.out.at 0 2 (v:=Zs code) rfl rfl
  have t3:=DK2.out.at 0 3 (v:=Zs code) rfl rfl
  go_wp2_with (go_at_call 98;refine(need_false _ _).mono ?_;rintro e w2 ⟨rfl,rfl⟩)
  exact⟨rfl,rfl,DK2.out.quiet⟩
end Go.Proofs.Ytgekekhbhkgekaa
