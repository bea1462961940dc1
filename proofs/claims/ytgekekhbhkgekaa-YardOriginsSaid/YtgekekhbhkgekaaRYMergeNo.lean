/- A deed: merge. -/
import Derived.Test.YtgekekhbhkgekaaRYMergeFacts
namespace Go.Proofs.Ytgekekhbhkgekaa
open Go Go.RowKit Yd
open _root_.Go.Value renaming int → Z, string → Zs, slice → Zl
open _root_.Go.IntKind renaming i64 → O
open _root_.Go.Lib renaming hid → Zh
open _root_.List renaming setIfInBounds_toArray → Za, set_cons_succ → Zb, set_cons_zero → Zc
set_option maxRecDepth 100000
set_option maxHeartbeats 16000000
theorem merge_no {w:World}{C:Nat→Prop}{B:Nat}{bef aft:Int}{l:List SRow}{c:Yd.Acc}{made:Int}{N:Nat}{kv tv:Value}{m:Nat}(h:Book w C B bef aft l c made N kv tv m)
  (kind day:Int) (code other:Code) (al ah bl bh:Int) (hs:code.size≤maxLen) (hC:∀ k,C k→k<w.heap.size) (hn:ixOf l code=none) :
  Calls Try.prog 89 #[.pointer (some ⟨B,0,none⟩),.agg #[Z O kind,Z O day,Zs code,Zs other,Z O al,Z O ah,Z O bl,Z O bh]] w fun e w'=>e=.panicked (faulty 1)∧Below w.heap.size w w':=by
 have HS:=Zh hs;have HN:=Zh hn
 clear hs hn
 have DK1:=Zh (boxed_deed h hC [Z O kind,Z O day,Zs code,Zs other,Z O al,Z O ah,Z O bl,Z O bh])
 go_enter Try.func89,Try.ntmps89
 go_upto_region 1 with fail
 generalize World.alloc _ _=w1 at DK1 ⊢
 obtain⟨gD,hgD⟩:∃ g,g=w.heap.size:=⟨_,rfl⟩
 rw [← hgD]at DK1 ⊢
 clear hgD
 refine region_till [11] (fun w'=>Blk w' gD 55 #[Z O kind,Z O day,Zs code,Zs other,Z O al,Z O ah,Z O bl,Z O bh]) 12 [false,false,false,false,false,false,false,false,false,false,false,false] (by kernel_rfl) rfl rfl ?_
 have MK1:=fun(W:World) (h:(fun w'=>Blk w' gD 55 #[Z O kind,Z O day,Zs code,Zs other,Z O al,Z O ah,Z O bl,Z O bh]) W)=>Zh h
 have DK2:=Zh (DK1.out.drew)
 clear DK1
 generalize w1.drew=v0 at DK2 ⊢
 have HT:=MK1 v0 ((DK2.out.loc 0 _ _ _ rfl).1)
 refine till_pure (i:=0) (v:=.pointer (some ⟨B,0,none⟩)) rfl rfl (by kernel_rfl) (fun _ _ _ h=>h) (yields_of rfl (fun w' _=>by simp [go_sem])) (fun _=>HT.out) ?_
 simp only [Za,Zb,Zc]
 refine till_pure (i:=1) (v:=.pointer (some ⟨gD,2,none⟩)) rfl rfl (by kernel_rfl) (fun _ _ _ h=>h) (yields_of rfl (fun w' _=>by simp [go_sem])) (fun _=>HT.out) ?_
 simp only [Za,Zb,Zc]
 refine till_load (i:=2) (v:=Zs code) rfl rfl (by kernel_rfl) (fun _ _ _ h=>h) (yields_of rfl (fun w' hw'=>by have hcx:=Blk.at hw' 2 (Zs code) rfl;simp [go_sem,hcx])) (fun _=>HT.out) ?_
 simp only [Za,Zb,Zc]
 refine till_pure (i:=4) (v:=.pointer (some ⟨B,0,none⟩)) rfl rfl (by kernel_rfl) (fun _ _ _ h=>h) (yields_of rfl (fun w' _=>by simp [go_sem])) (fun _=>HT.out) ?_
 simp only [Za,Zb,Zc]
 refine till_pure (i:=5) (v:=.pointer (some ⟨gD,3,none⟩)) rfl rfl (by kernel_rfl) (fun _ _ _ h=>h) (yields_of rfl (fun w' _=>by simp [go_sem])) (fun _=>HT.out) ?_
 simp only [Za,Zb,Zc]
 refine till_load (i:=6) (v:=Zs other) rfl rfl (by kernel_rfl) (fun _ _ _ h=>h) (yields_of rfl (fun w' hw'=>by have hcx:=Blk.at hw' 3 (Zs other) rfl;simp [go_sem,hcx])) (fun _=>HT.out) ?_
 simp only [Za,Zb,Zc]
 refine till_three (i:=3) (j:=8) (k:=9) (by kernel_rfl) rfl rfl rfl ?_ ?_ ?_
 ·go_wp2_with (go_at_call 94;refine(stack_no DK2.out.book code HS.out HN.out).mono ?_;rintro e v ⟨rfl,hb⟩;have DKe:=Zh (DK2.out.below hb);clear hb)
  exact⟨rfl,rfl,DKe.out.quiet⟩
 ·go_wp2_with fail
  have DK3:=Zh (p:=Desk w (v0.alloc (.cells #[Zs ⟨#[]⟩,Z O 0,Z O 0,Z O 0,Z O 0,Z O 0,Z O 0,Zl none 0 0] 49)) (fun _=>False) C B bef aft l c made N kv tv m [(gD,55,[Z O kind,Z O day,Zs code,Zs other,Z O al,Z O ah,Z O bl,Z O bh]),(v0.heap.size,49,[Zs ⟨#[]⟩,Z O 0,Z O 0,Z O 0,Z O 0,Z O 0,Z O 0,Zl none 0 0])]) (DK2.out.alloc 49 [Zs ⟨#[]⟩,Z O 0,Z O 0,Z O 0,Z O 0,Z O 0,Z O 0,Zl none 0 0] rfl)
  generalize World.alloc _ _=v1 at DK3 ⊢
  generalize v0.heap.size=gS at DK3 ⊢
  have HT:=MK1 v1 ((DK3.out.loc 0 _ _ _ rfl).1)
  refine⟨fun _=>HT.out,?_⟩
  try simp only [Za,Zb,Zc]
  refine till_two (i:=3) (j:=9) (by kernel_rfl) rfl rfl ?_ ?_
  ·go_wp2_with (go_at_call 94;refine(stack_no DK3.out.book code HS.out HN.out).mono ?_;rintro e v ⟨rfl,hb⟩;have DKe:=Zh (DK3.out.below hb);clear hb)
   exact⟨rfl,rfl,DKe.out.quiet⟩
  ·go_wp2_with fail
   have DK4:=Zh (p:=Desk w (v1.alloc (.cells #[Zs ⟨#[]⟩,Z O 0,Z O 0,Z O 0,Z O 0,Z O 0,Z O 0,Zl none 0 0] 49)) (fun _=>False) C B bef aft l c made N kv tv m [(gD,55,[Z O kind,Z O day,Zs code,Zs other,Z O al,Z O ah,Z O bl,Z O bh]),(gS,49,[Zs ⟨#[]⟩,Z O 0,Z O 0,Z O 0,Z O 0,Z O 0,Z O 0,Zl none 0 0]),(v1.heap.size,49,[Zs ⟨#[]⟩,Z O 0,Z O 0,Z O 0,Z O 0,Z O 0,Z O 0,Zl none 0 0])]) (DK3.out.alloc 49 [Zs ⟨#[]⟩,Z O 0,Z O 0,Z O 0,Z O 0,Z O 0,Z O 0,Zl none 0 0] rfl)
   generalize World.alloc _ _=v2 at DK4 ⊢
   generalize v1.heap.size=gO at DK4 ⊢
   have HT:=MK1 v2 ((DK4.out.loc 0 _ _ _ rfl).1)
   refine⟨fun _=>HT.out,?_⟩
   try simp only [Za,Zb,Zc]
   refine till_only (j:=3) (by kernel_rfl) rfl ?_
   go_wp2_with (go_at_call 94;refine(stack_no DK4.out.book code HS.out HN.out).mono ?_;rintro e v ⟨rfl,hb⟩;have DKe:=Zh (DK4.out.below hb);clear hb)
   exact⟨rfl,rfl,DKe.out.quiet⟩
 ·go_wp2_with fail
  have DK3:=Zh (p:=Desk w (v0.alloc (.cells #[Zs ⟨#[]⟩,Z O 0,Z O 0,Z O 0,Z O 0,Z O 0,Z O 0,Zl none 0 0] 49)) (fun _=>False) C B bef aft l c made N kv tv m [(gD,55,[Z O kind,Z O day,Zs code,Zs other,Z O al,Z O ah,Z O bl,Z O bh]),(v0.heap.size,49,[Zs ⟨#[]⟩,Z O 0,Z O 0,Z O 0,Z O 0,Z O 0,Z O 0,Zl none 0 0])]) (DK2.out.alloc 49 [Zs ⟨#[]⟩,Z O 0,Z O 0,Z O 0,Z O 0,Z O 0,Z O 0,Zl none 0 0] rfl)
  generalize World.alloc _ _=v1 at DK3 ⊢
  generalize v0.heap.size=gO at DK3 ⊢
  have HT:=MK1 v1 ((DK3.out.loc 0 _ _ _ rfl).1)
  refine⟨fun _=>HT.out,?_⟩
  try simp only [Za,Zb,Zc]
  refine till_two (i:=3) (j:=8) (by kernel_rfl) rfl rfl ?_ ?_
  ·go_wp2_with (go_at_call 94;refine(stack_no DK3.out.book code HS.out HN.out).mono ?_;rintro e v ⟨rfl,hb⟩;have DKe:=Zh (DK3.out.below hb);clear hb)
   exact⟨rfl,rfl,DKe.out.quiet⟩
  ·go_wp2_with fail
   have DK4:=Zh (p:=Desk w (v1.alloc (.cells #[Zs ⟨#[]⟩,Z O 0,Z O 0,Z O 0,Z O 0,Z O 0,Z O 0,Zl none 0 0] 49)) (fun _=>False) C B bef aft l c made N kv tv m [(gD,55,[Z O kind,Z O day,Zs code,Zs other,Z O al,Z O ah,Z O bl,Z O bh]),(gO,49,[Zs ⟨#[]⟩,Z O 0,Z O 0,Z O 0,Z O 0,Z O 0,Z O 0,Zl none 0 0]),(v1.heap.size,49,[Zs ⟨#[]⟩,Z O 0,Z O 0,Z O 0,Z O 0,Z O 0,Z O 0,Zl none 0 0])]) (DK3.out.alloc 49 [Zs ⟨#[]⟩,Z O 0,Z O 0,Z O 0,Z O 0,Z O 0,Z O 0,Zl none 0 0] rfl)
   generalize World.alloc _ _=v2 at DK4 ⊢
   generalize v1.heap.size=gS at DK4 ⊢
   have HT:=MK1 v2 ((DK4.out.loc 0 _ _ _ rfl).1)
   refine⟨fun _=>HT.out,?_⟩
   try simp only [Za,Zb,Zc]
   refine till_only (j:=3) (by kernel_rfl) rfl ?_
   go_wp2_with (go_at_call 94;refine(stack_no DK4.out.book code HS.out HN.out).mono ?_;rintro e v ⟨rfl,hb⟩;have DKe:=Zh (DK4.out.below hb);clear hb)
   exact⟨rfl,rfl,DKe.out.quiet⟩
theorem merge_none {w:World}{C:Nat→Prop}{B:Nat}{bef aft:Int}{l:List SRow}{c:Yd.Acc}{made:Int}{N:Nat}{kv tv:Value}{m:Nat}(h:Book w C B bef aft l c made N kv tv m)
  (kind day:Int) (code other:Code) (al ah bl bh:Int) (hs:code.size≤maxLen) (hC:∀ k,C k→k<w.heap.size) (dl dh wl wh pil boi:Int) (src:List Int) (fa:Option Addr) (fn fc:Nat) {k:Nat} (hk:ixOf l code=some k) (hp:l[k]? = some (⟨code,⟨dl,dh⟩,⟨wl,wh⟩,pil,boi,src⟩,Zl fa fn fc)) (hso:other.size≤maxLen) (hn:ixOf l other=none) :
  Calls Try.prog 89 #[.pointer (some ⟨B,0,none⟩),.agg #[Z O kind,Z O day,Zs code,Zs other,Z O al,Z O ah,Z O bl,Z O bh]] w fun e w'=>e=.panicked (faulty 1)∧Below w.heap.size w w':=by
 have HS:=Zh hs;have HK:=Zh hk;have HP:=Zh hp;have HSO:=Zh hso;have HN:=Zh hn
 clear hs hk hp hso hn
 have DK1:=Zh (boxed_deed h hC [Z O kind,Z O day,Zs code,Zs other,Z O al,Z O ah,Z O bl,Z O bh])
 go_enter Try.func89,Try.ntmps89
 go_upto_region 1 with fail
 generalize World.alloc _ _=w1 at DK1 ⊢
 obtain⟨gD,hgD⟩:∃ g,g=w.heap.size:=⟨_,rfl⟩
 rw [← hgD]at DK1 ⊢
 clear hgD
 refine region_till [11] (fun w'=>Blk w' gD 55 #[Z O kind,Z O day,Zs code,Zs other,Z O al,Z O ah,Z O bl,Z O bh]) 12 [false,false,false,false,false,false,false,false,false,false,false,false] (by kernel_rfl) rfl rfl ?_
 have MK2:=fun(W:World) (h:(fun w'=>Blk w' gD 55 #[Z O kind,Z O day,Zs code,Zs other,Z O al,Z O ah,Z O bl,Z O bh]) W)=>Zh h
 have DK2:=Zh (DK1.out.drew)
 clear DK1
 generalize w1.drew=v0 at DK2 ⊢
 have HT:=MK2 v0 ((DK2.out.loc 0 _ _ _ rfl).1)
 refine till_pure (i:=0) (v:=.pointer (some ⟨B,0,none⟩)) rfl rfl (by kernel_rfl) (fun _ _ _ h=>h) (yields_of rfl (fun w' _=>by simp [go_sem])) (fun _=>HT.out) ?_
 simp only [Za,Zb,Zc]
 refine till_pure (i:=1) (v:=.pointer (some ⟨gD,2,none⟩)) rfl rfl (by kernel_rfl) (fun _ _ _ h=>h) (yields_of rfl (fun w' _=>by simp [go_sem])) (fun _=>HT.out) ?_
 simp only [Za,Zb,Zc]
 refine till_load (i:=2) (v:=Zs code) rfl rfl (by kernel_rfl) (fun _ _ _ h=>h) (yields_of rfl (fun w' hw'=>by have hcx:=Blk.at hw' 2 (Zs code) rfl;simp [go_sem,hcx])) (fun _=>HT.out) ?_
 simp only [Za,Zb,Zc]
 refine till_pure (i:=4) (v:=.pointer (some ⟨B,0,none⟩)) rfl rfl (by kernel_rfl) (fun _ _ _ h=>h) (yields_of rfl (fun w' _=>by simp [go_sem])) (fun _=>HT.out) ?_
 simp only [Za,Zb,Zc]
 refine till_pure (i:=5) (v:=.pointer (some ⟨gD,3,none⟩)) rfl rfl (by kernel_rfl) (fun _ _ _ h=>h) (yields_of rfl (fun w' _=>by simp [go_sem])) (fun _=>HT.out) ?_
 simp only [Za,Zb,Zc]
 refine till_load (i:=6) (v:=Zs other) rfl rfl (by kernel_rfl) (fun _ _ _ h=>h) (yields_of rfl (fun w' hw'=>by have hcx:=Blk.at hw' 3 (Zs other) rfl;simp [go_sem,hcx])) (fun _=>HT.out) ?_
 simp only [Za,Zb,Zc]
 refine till_three (i:=3) (j:=8) (k:=9) (by kernel_rfl) rfl rfl rfl ?_ ?_ ?_
 ·go_wp2_with (go_at_call 94;refine(stack_yes DK2.out.book code HS.out HK.out HP.out).mono ?_;rintro e v1 ⟨rfl,hb⟩;have DK3:=Zh (DK2.out.below hb);clear hb)
  have HT:=MK2 v1 ((DK3.out.loc 0 _ _ _ rfl).1)
  refine⟨fun _=>HT.out,?_⟩
  try simp only [Za,Zb,Zc]
  refine till_three (i:=7) (j:=8) (k:=9) (by kernel_rfl) rfl rfl rfl ?_ ?_ ?_
  ·go_wp2_with (go_at_call 94;refine(stack_no DK3.out.book other HSO.out HN.out).mono ?_;rintro e v ⟨rfl,hb⟩;have DKe:=Zh (DK3.out.below hb);clear hb)
   exact⟨rfl,rfl,DKe.out.quiet⟩
  ·go_wp2_with fail
   have DK4:=Zh (p:=Desk w (v1.alloc (.cells #[Zs ⟨#[]⟩,Z O 0,Z O 0,Z O 0,Z O 0,Z O 0,Z O 0,Zl none 0 0] 49)) (fun _=>False) C B bef aft l c made N kv tv m [(gD,55,[Z O kind,Z O day,Zs code,Zs other,Z O al,Z O ah,Z O bl,Z O bh]),(v1.heap.size,49,[Zs ⟨#[]⟩,Z O 0,Z O 0,Z O 0,Z O 0,Z O 0,Z O 0,Zl none 0 0])]) (DK3.out.alloc 49 [Zs ⟨#[]⟩,Z O 0,Z O 0,Z O 0,Z O 0,Z O 0,Z O 0,Zl none 0 0] rfl)
   generalize World.alloc _ _=v2 at DK4 ⊢
   generalize v1.heap.size=gS at DK4 ⊢
   have HT:=MK2 v2 ((DK4.out.loc 0 _ _ _ rfl).1)
   refine⟨fun _=>HT.out,?_⟩
   try simp only [Za,Zb,Zc]
   refine till_two (i:=7) (j:=9) (by kernel_rfl) rfl rfl ?_ ?_
   ·go_wp2_with (go_at_call 94;refine(stack_no DK4.out.book other HSO.out HN.out).mono ?_;rintro e v ⟨rfl,hb⟩;have DKe:=Zh (DK4.out.below hb);clear hb)
    exact⟨rfl,rfl,DKe.out.quiet⟩
   ·go_wp2_with fail
    have DK5:=Zh (p:=Desk w (v2.alloc (.cells #[Zs ⟨#[]⟩,Z O 0,Z O 0,Z O 0,Z O 0,Z O 0,Z O 0,Zl none 0 0] 49)) (fun _=>False) C B bef aft l c made N kv tv m [(gD,55,[Z O kind,Z O day,Zs code,Zs other,Z O al,Z O ah,Z O bl,Z O bh]),(gS,49,[Zs ⟨#[]⟩,Z O 0,Z O 0,Z O 0,Z O 0,Z O 0,Z O 0,Zl none 0 0]),(v2.heap.size,49,[Zs ⟨#[]⟩,Z O 0,Z O 0,Z O 0,Z O 0,Z O 0,Z O 0,Zl none 0 0])]) (DK4.out.alloc 49 [Zs ⟨#[]⟩,Z O 0,Z O 0,Z O 0,Z O 0,Z O 0,Z O 0,Zl none 0 0] rfl)
    generalize World.alloc _ _=v3 at DK5 ⊢
    generalize v2.heap.size=gO at DK5 ⊢
    have HT:=MK2 v3 ((DK5.out.loc 0 _ _ _ rfl).1)
    refine⟨fun _=>HT.out,?_⟩
    try simp only [Za,Zb,Zc]
    refine till_only (j:=7) (by kernel_rfl) rfl ?_
    go_wp2_with (go_at_call 94;refine(stack_no DK5.out.book other HSO.out HN.out).mono ?_;rintro e v ⟨rfl,hb⟩;have DKe:=Zh (DK5.out.below hb);clear hb)
    exact⟨rfl,rfl,DKe.out.quiet⟩
  ·go_wp2_with fail
   have DK4:=Zh (p:=Desk w (v1.alloc (.cells #[Zs ⟨#[]⟩,Z O 0,Z O 0,Z O 0,Z O 0,Z O 0,Z O 0,Zl none 0 0] 49)) (fun _=>False) C B bef aft l c made N kv tv m [(gD,55,[Z O kind,Z O day,Zs code,Zs other,Z O al,Z O ah,Z O bl,Z O bh]),(v1.heap.size,49,[Zs ⟨#[]⟩,Z O 0,Z O 0,Z O 0,Z O 0,Z O 0,Z O 0,Zl none 0 0])]) (DK3.out.alloc 49 [Zs ⟨#[]⟩,Z O 0,Z O 0,Z O 0,Z O 0,Z O 0,Z O 0,Zl none 0 0] rfl)
   generalize World.alloc _ _=v2 at DK4 ⊢
   generalize v1.heap.size=gO at DK4 ⊢
   have HT:=MK2 v2 ((DK4.out.loc 0 _ _ _ rfl).1)
   refine⟨fun _=>HT.out,?_⟩
   try simp only [Za,Zb,Zc]
   refine till_two (i:=7) (j:=8) (by kernel_rfl) rfl rfl ?_ ?_
   ·go_wp2_with (go_at_call 94;refine(stack_no DK4.out.book other HSO.out HN.out).mono ?_;rintro e v ⟨rfl,hb⟩;have DKe:=Zh (DK4.out.below hb);clear hb)
    exact⟨rfl,rfl,DKe.out.quiet⟩
   ·go_wp2_with fail
    have DK5:=Zh (p:=Desk w (v2.alloc (.cells #[Zs ⟨#[]⟩,Z O 0,Z O 0,Z O 0,Z O 0,Z O 0,Z O 0,Zl none 0 0] 49)) (fun _=>False) C B bef aft l c made N kv tv m [(gD,55,[Z O kind,Z O day,Zs code,Zs other,Z O al,Z O ah,Z O bl,Z O bh]),(gO,49,[Zs ⟨#[]⟩,Z O 0,Z O 0,Z O 0,Z O 0,Z O 0,Z O 0,Zl none 0 0]),(v2.heap.size,49,[Zs ⟨#[]⟩,Z O 0,Z O 0,Z O 0,Z O 0,Z O 0,Z O 0,Zl none 0 0])]) (DK4.out.alloc 49 [Zs ⟨#[]⟩,Z O 0,Z O 0,Z O 0,Z O 0,Z O 0,Z O 0,Zl none 0 0] rfl)
    generalize World.alloc _ _=v3 at DK5 ⊢
    generalize v2.heap.size=gS at DK5 ⊢
    have HT:=MK2 v3 ((DK5.out.loc 0 _ _ _ rfl).1)
    refine⟨fun _=>HT.out,?_⟩
    try simp only [Za,Zb,Zc]
    refine till_only (j:=7) (by kernel_rfl) rfl ?_
    go_wp2_with (go_at_call 94;refine(stack_no DK5.out.book other HSO.out HN.out).mono ?_;rintro e v ⟨rfl,hb⟩;have DKe:=Zh (DK5.out.below hb);clear hb)
    exact⟨rfl,rfl,DKe.out.quiet⟩
 ·go_wp2_with fail
  have DK3:=Zh (p:=Desk w (v0.alloc (.cells #[Zs ⟨#[]⟩,Z O 0,Z O 0,Z O 0,Z O 0,Z O 0,Z O 0,Zl none 0 0] 49)) (fun _=>False) C B bef aft l c made N kv tv m [(gD,55,[Z O kind,Z O day,Zs code,Zs other,Z O al,Z O ah,Z O bl,Z O bh]),(v0.heap.size,49,[Zs ⟨#[]⟩,Z O 0,Z O 0,Z O 0,Z O 0,Z O 0,Z O 0,Zl none 0 0])]) (DK2.out.alloc 49 [Zs ⟨#[]⟩,Z O 0,Z O 0,Z O 0,Z O 0,Z O 0,Z O 0,Zl none 0 0] rfl)
  generalize World.alloc _ _=v1 at DK3 ⊢
  generalize v0.heap.size=gS at DK3 ⊢
  have HT:=MK2 v1 ((DK3.out.loc 0 _ _ _ rfl).1)
  refine⟨fun _=>HT.out,?_⟩
  try simp only [Za,Zb,Zc]
  refine till_two (i:=3) (j:=9) (by kernel_rfl) rfl rfl ?_ ?_
  ·go_wp2_with (go_at_call 94;refine(stack_yes DK3.out.book code HS.out HK.out HP.out).mono ?_;rintro e v2 ⟨rfl,hb⟩;have DK4:=Zh (DK3.out.below hb);clear hb)
   have HT:=MK2 v2 ((DK4.out.loc 0 _ _ _ rfl).1)
   refine⟨fun _=>HT.out,?_⟩
   try simp only [Za,Zb,Zc]
   refine till_two (i:=7) (j:=9) (by kernel_rfl) rfl rfl ?_ ?_
   ·go_wp2_with (go_at_call 94;refine(stack_no DK4.out.book other HSO.out HN.out).mono ?_;rintro e v ⟨rfl,hb⟩;have DKe:=Zh (DK4.out.below hb);clear hb)
    exact⟨rfl,rfl,DKe.out.quiet⟩
   ·go_wp2_with fail
    have DK5:=Zh (p:=Desk w (v2.alloc (.cells #[Zs ⟨#[]⟩,Z O 0,Z O 0,Z O 0,Z O 0,Z O 0,Z O 0,Zl none 0 0] 49)) (fun _=>False) C B bef aft l c made N kv tv m [(gD,55,[Z O kind,Z O day,Zs code,Zs other,Z O al,Z O ah,Z O bl,Z O bh]),(gS,49,[Zs ⟨#[]⟩,Z O 0,Z O 0,Z O 0,Z O 0,Z O 0,Z O 0,Zl none 0 0]),(v2.heap.size,49,[Zs ⟨#[]⟩,Z O 0,Z O 0,Z O 0,Z O 0,Z O 0,Z O 0,Zl none 0 0])]) (DK4.out.alloc 49 [Zs ⟨#[]⟩,Z O 0,Z O 0,Z O 0,Z O 0,Z O 0,Z O 0,Zl none 0 0] rfl)
    generalize World.alloc _ _=v3 at DK5 ⊢
    generalize v2.heap.size=gO at DK5 ⊢
    have HT:=MK2 v3 ((DK5.out.loc 0 _ _ _ rfl).1)
    refine⟨fun _=>HT.out,?_⟩
    try simp only [Za,Zb,Zc]
    refine till_only (j:=7) (by kernel_rfl) rfl ?_
    go_wp2_with (go_at_call 94;refine(stack_no DK5.out.book other HSO.out HN.out).mono ?_;rintro e v ⟨rfl,hb⟩;have DKe:=Zh (DK5.out.below hb);clear hb)
    exact⟨rfl,rfl,DKe.out.quiet⟩
  ·go_wp2_with fail
   have DK4:=Zh (p:=Desk w (v1.alloc (.cells #[Zs ⟨#[]⟩,Z O 0,Z O 0,Z O 0,Z O 0,Z O 0,Z O 0,Zl none 0 0] 49)) (fun _=>False) C B bef aft l c made N kv tv m [(gD,55,[Z O kind,Z O day,Zs code,Zs other,Z O al,Z O ah,Z O bl,Z O bh]),(gS,49,[Zs ⟨#[]⟩,Z O 0,Z O 0,Z O 0,Z O 0,Z O 0,Z O 0,Zl none 0 0]),(v1.heap.size,49,[Zs ⟨#[]⟩,Z O 0,Z O 0,Z O 0,Z O 0,Z O 0,Z O 0,Zl none 0 0])]) (DK3.out.alloc 49 [Zs ⟨#[]⟩,Z O 0,Z O 0,Z O 0,Z O 0,Z O 0,Z O 0,Zl none 0 0] rfl)
   generalize World.alloc _ _=v2 at DK4 ⊢
   generalize v1.heap.size=gO at DK4 ⊢
   have HT:=MK2 v2 ((DK4.out.loc 0 _ _ _ rfl).1)
   refine⟨fun _=>HT.out,?_⟩
   try simp only [Za,Zb,Zc]
   refine till_only (j:=3) (by kernel_rfl) rfl ?_
   go_wp2_with (go_at_call 94;refine(stack_yes DK4.out.book code HS.out HK.out HP.out).mono ?_;rintro e v3 ⟨rfl,hb⟩;have DK5:=Zh (DK4.out.below hb);clear hb)
   have HT:=MK2 v3 ((DK5.out.loc 0 _ _ _ rfl).1)
   refine⟨fun _=>HT.out,?_⟩
   try simp only [Za,Zb,Zc]
   refine till_only (j:=7) (by kernel_rfl) rfl ?_
   go_wp2_with (go_at_call 94;refine(stack_no DK5.out.book other HSO.out HN.out).mono ?_;rintro e v ⟨rfl,hb⟩;have DKe:=Zh (DK5.out.below hb);clear hb)
   exact⟨rfl,rfl,DKe.out.quiet⟩
 ·go_wp2_with fail
  have DK3:=Zh (p:=Desk w (v0.alloc (.cells #[Zs ⟨#[]⟩,Z O 0,Z O 0,Z O 0,Z O 0,Z O 0,Z O 0,Zl none 0 0] 49)) (fun _=>False) C B bef aft l c made N kv tv m [(gD,55,[Z O kind,Z O day,Zs code,Zs other,Z O al,Z O ah,Z O bl,Z O bh]),(v0.heap.size,49,[Zs ⟨#[]⟩,Z O 0,Z O 0,Z O 0,Z O 0,Z O 0,Z O 0,Zl none 0 0])]) (DK2.out.alloc 49 [Zs ⟨#[]⟩,Z O 0,Z O 0,Z O 0,Z O 0,Z O 0,Z O 0,Zl none 0 0] rfl)
  generalize World.alloc _ _=v1 at DK3 ⊢
  generalize v0.heap.size=gO at DK3 ⊢
  have HT:=MK2 v1 ((DK3.out.loc 0 _ _ _ rfl).1)
  refine⟨fun _=>HT.out,?_⟩
  try simp only [Za,Zb,Zc]
  refine till_two (i:=3) (j:=8) (by kernel_rfl) rfl rfl ?_ ?_
  ·go_wp2_with (go_at_call 94;refine(stack_yes DK3.out.book code HS.out HK.out HP.out).mono ?_;rintro e v2 ⟨rfl,hb⟩;have DK4:=Zh (DK3.out.below hb);clear hb)
   have HT:=MK2 v2 ((DK4.out.loc 0 _ _ _ rfl).1)
   refine⟨fun _=>HT.out,?_⟩
   try simp only [Za,Zb,Zc]
   refine till_two (i:=7) (j:=8) (by kernel_rfl) rfl rfl ?_ ?_
   ·go_wp2_with (go_at_call 94;refine(stack_no DK4.out.book other HSO.out HN.out).mono ?_;rintro e v ⟨rfl,hb⟩;have DKe:=Zh (DK4.out.below hb);clear hb)
    exact⟨rfl,rfl,DKe.out.quiet⟩
   ·go_wp2_with fail
    have DK5:=Zh (p:=Desk w (v2.alloc (.cells #[Zs ⟨#[]⟩,Z O 0,Z O 0,Z O 0,Z O 0,Z O 0,Z O 0,Zl none 0 0] 49)) (fun _=>False) C B bef aft l c made N kv tv m [(gD,55,[Z O kind,Z O day,Zs code,Zs other,Z O al,Z O ah,Z O bl,Z O bh]),(gO,49,[Zs ⟨#[]⟩,Z O 0,Z O 0,Z O 0,Z O 0,Z O 0,Z O 0,Zl none 0 0]),(v2.heap.size,49,[Zs ⟨#[]⟩,Z O 0,Z O 0,Z O 0,Z O 0,Z O 0,Z O 0,Zl none 0 0])]) (DK4.out.alloc 49 [Zs ⟨#[]⟩,Z O 0,Z O 0,Z O 0,Z O 0,Z O 0,Z O 0,Zl none 0 0] rfl)
    generalize World.alloc _ _=v3 at DK5 ⊢
    generalize v2.heap.size=gS at DK5 ⊢
    have HT:=MK2 v3 ((DK5.out.loc 0 _ _ _ rfl).1)
    refine⟨fun _=>HT.out,?_⟩
    try simp only [Za,Zb,Zc]
    refine till_only (j:=7) (by kernel_rfl) rfl ?_
    go_wp2_with (go_at_call 94;refine(stack_no DK5.out.book other HSO.out HN.out).mono ?_;rintro e v ⟨rfl,hb⟩;have DKe:=Zh (DK5.out.below hb);clear hb)
    exact⟨rfl,rfl,DKe.out.quiet⟩
  ·go_wp2_with fail
   have DK4:=Zh (p:=Desk w (v1.alloc (.cells #[Zs ⟨#[]⟩,Z O 0,Z O 0,Z O 0,Z O 0,Z O 0,Z O 0,Zl none 0 0] 49)) (fun _=>False) C B bef aft l c made N kv tv m [(gD,55,[Z O kind,Z O day,Zs code,Zs other,Z O al,Z O ah,Z O bl,Z O bh]),(gO,49,[Zs ⟨#[]⟩,Z O 0,Z O 0,Z O 0,Z O 0,Z O 0,Z O 0,Zl none 0 0]),(v1.heap.size,49,[Zs ⟨#[]⟩,Z O 0,Z O 0,Z O 0,Z O 0,Z O 0,Z O 0,Zl none 0 0])]) (DK3.out.alloc 49 [Zs ⟨#[]⟩,Z O 0,Z O 0,Z O 0,Z O 0,Z O 0,Z O 0,Zl none 0 0] rfl)
   generalize World.alloc _ _=v2 at DK4 ⊢
   generalize v1.heap.size=gS at DK4 ⊢
   have HT:=MK2 v2 ((DK4.out.loc 0 _ _ _ rfl).1)
   refine⟨fun _=>HT.out,?_⟩
   try simp only [Za,Zb,Zc]
   refine till_only (j:=3) (by kernel_rfl) rfl ?_
   go_wp2_with (go_at_call 94;refine(stack_yes DK4.out.book code HS.out HK.out HP.out).mono ?_;rintro e v3 ⟨rfl,hb⟩;have DK5:=Zh (DK4.out.below hb);clear hb)
   have HT:=MK2 v3 ((DK5.out.loc 0 _ _ _ rfl).1)
   refine⟨fun _=>HT.out,?_⟩
   try simp only [Za,Zb,Zc]
   refine till_only (j:=7) (by kernel_rfl) rfl ?_
   go_wp2_with (go_at_call 94;refine(stack_no DK5.out.book other HSO.out HN.out).mono ?_;rintro e v ⟨rfl,hb⟩;have DKe:=Zh (DK5.out.below hb);clear hb)
   exact⟨rfl,rfl,DKe.out.quiet⟩
end Go.Proofs.Ytgekekhbhkgekaa
