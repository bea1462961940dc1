/- The program's Follow at a valid yard. -/
import Derived.Test.YtgekekhbhkgekaaRYOneAny
namespace Go.Proofs.Ytgekekhbhkgekaa
open Go Go.RowKit Go.Shelf Yd
open Go.Value renaming int→Z,string→Zs,slice→Zl
open Go.IntKind renaming i64→O
open Go.Lib renaming hid→Zh
open _root_.List renaming setIfInBounds_toArray→Za,set_cons_succ→Zb,set_cons_zero→Zc
open _root_.Nat renaming le_of_ble_eq_true→Zn
open Go renaming wpList_store_mid→Zw
set_option maxRecDepth 100000
set_option maxHeartbeats 16000000
structure Stands (w:World)(rows:List SRow)(tv:Value):Prop where
 things:w.ownsRow 0 49 8 tv rows.length (rowsCells rows)
 froms:∀ p ∈ rows,w.ownsRow 0 3 1 p.2 p.1.src.length (intCells p.1.src)
 fromsLen:∀ p ∈ rows,p.1.src.length≤1000
 codes:(rows.map fun p=>p.1.code).Nodup
 sizes:∀ p ∈ rows,p.1.code.size≤maxLen
 few:rows.length≤8
theorem Book.stands {w:World}{C:Nat→Prop}{B:Nat}{bef aft:Int}{l:List SRow}{c:Yd.Acc}{made:Int}{N:Nat}{kv tv:Value}{m:Nat}(h:Book w C B bef aft l c made N kv tv m):Stands w l tv :=
 ⟨h.things,h.froms,h.fromsLen,h.codes,h.sizes,h.few⟩
theorem Stands.same {w w':World}{rows:List SRow}{tv:Value}(h:Stands w rows tv)(hs:∀ k,k<w.heap.size→w'.heap[k]? = w.heap[k]?):Stands w' rows tv :=
 ⟨row_same h.things (fun g hg=>hs g (row_lt h.things hg)),fun p hp=>row_same (h.froms p hp) (fun g hg=>hs g (row_lt (h.froms p hp) hg)),h.fromsLen,h.codes,h.sizes,h.few⟩
theorem Stands.below {w w':World}{rows:List SRow}{tv:Value}(h:Stands w rows tv)(hb:Below w.heap.size w w'):Stands w' rows tv:=h.same hb.block
theorem Stands.setCells {w:World}{rows:List SRow}{tv:Value}(h:Stands w rows tv){g:Nat}{t:TypeId}{cs:Array Value}(hb:Blk w g t cs)(h1:t≠49)(h2:t≠3)(o:Nat)(vs:List Value):Stands (w.setCells g o vs) rows tv :=
 ⟨row_same h.things (fun k hk=>heap_setCells w g (fun e=>hb.notRow h.things h1 (by rw [hk,e])) vs _),fun p hp=>row_same (h.froms p hp) (fun k hk=>heap_setCells w g (fun e=>hb.notRow (h.froms p hp) h2 (by rw [hk,e])) vs _),h.fromsLen,h.codes,h.sizes,h.few⟩
def FollowDone (w:World)(bef aft:Int)(ds:List (Deed Code))(n:Nat)(e:Ending)(w':World):Prop :=
 ∃(rows:List SRow) (tv:Value) (acc:Yd.Acc) (k:Nat) (f:Int),Yd.follow bef aft ds n=(stOf rows acc,k,f)∧SmallSt k (stOf rows acc)∧k≤n∧e=.returned (.tuple #[.agg (tv :: accCells acc).toArray,Z O k,Z O f,Z O 0])∧Below w.heap.size w w'∧Stands w' rows tv
theorem follow_calls (bef aft:Int)(v:Value)(ds:List (Deed Code))(k0:Nat)(w:World)(h:Held w.heap.size w 8 deedCells v ds)(hok:errYard bef aft ds=0)(hsz:∀ d ∈ ds,d.stack.size≤maxLen∧d.other.size≤maxLen)(hn:k0≤ds.length)(h12:k0≤12) :
  Calls Try.prog 16 #[.agg #[Z O bef,Z O aft,v],Z O k0] w (FollowDone w bef aft ds k0):=by
 obtain⟨a,c,rfl,hmax,hcs⟩:=h.slice
 have HH:=Zh h;have HOK:=Zh hok;have HSZ:=Zh hsz;have HCS:=Zh hcs
 obtain⟨_,_,hn40,hde⟩:=errYard_ok hok
 have HFIT:=Zh (errDeeds_all hde)
 have hkc:k0≤c:=by
  rcases Nat.eq_zero_or_pos ds.length with h0 | h0
  ·omega
  ·obtain⟨b,off,_,_,hc,_⟩:=hcs h0
   omega
 obtain⟨n,hnn⟩:∃ n,n=ds.length:=⟨_,rfl⟩
 have HN:=Zh hnn
 rw [← hnn]at HH hn hmax hn40 ⊢
 clear hnn hok hsz hcs h hde
 have HK0:=Zh (Blk.new w 24 #[Z O bef,Z O aft,Zl a n c])
 have HW0:=Zh ((Below.refl w.heap.size w).alloc (Nat.le_refl _) (.cells #[Z O bef,Z O aft,Zl a n c] 24))
 have hz0:(w.alloc (.cells #[Z O bef,Z O aft,Zl a n c] 24)).heap.size=w.heap.size+1:=World.size_alloc _ _
 have HZ1:=Zh (Blk.new (w.alloc (.cells #[Z O bef,Z O aft,Zl a n c] 24)) 36 #[Zl none 0 0,Z O 0,Z O 0,Z O 0,Z O 0,Z O 0,Z O 0,Z O 0,Z O 0,Z O 0,Z O 0,Z O 0,Z O 0])
 have HK1:=Zh (HK0.out.alloc (.cells #[Zl none 0 0,Z O 0,Z O 0,Z O 0,Z O 0,Z O 0,Z O 0,Z O 0,Z O 0,Z O 0,Z O 0,Z O 0,Z O 0] 36))
 have HW1:=Zh (HW0.out.alloc HW0.out.size (.cells #[Zl none 0 0,Z O 0,Z O 0,Z O 0,Z O 0,Z O 0,Z O 0,Z O 0,Z O 0,Z O 0,Z O 0,Z O 0,Z O 0] 36))
 rw [hz0]at HZ1
 have hck:∀ W,Below w.heap.size w W→Calls Try.prog 40 #[.agg #[Z O bef,Z O aft,Zl a n c],Z O k0] W fun e w'=>e=.returned (Z O 0)∧Below W.heap.size W w':=fun W hW =>
  checkFirst_ok bef aft (Zl a n c) ds (k0:Int) W ((HH.out.below hW).mono hW.size) HOK.out (fun d hd=>HSZ.out d hd) ⟨by omega,by have:=HN.out;omega⟩
 have HCK:=Zh hck
 clear hck hmax
 go_enter Try.func16,Try.ntmps16
 go_wp2_with (first
  | (go_at_call 40;refine(HCK.out _ HW1.out).mono ?_;rintro e w2 ⟨rfl,hb2⟩;have HK2:=Zh (HK1.out.below hb2);have HZ2:=Zh (HZ1.out.below hb2);have HW2:=Zh (HW1.out.trans (hb2.mono HW1.out.size));clear hb2;have y0:=HK2.out.at 0 _ rfl;have y1:=HK2.out.at 1 _ rfl;have y2:=HK2.out.at 2 _ rfl)
  | (go_at_call 41;refine(bookOf_calls bef aft a n c _).mono ?_;rintro e w3 ⟨B,m,rfl,hbk,hb3⟩;have HB3:=Zh hbk;have HK3:=Zh (HK2.out.below hb3);have HZ3:=Zh (HZ2.out.below hb3);have HW3:=Zh (HW2.out.trans (hb3.mono HW2.out.size));have hz23:=hb3.size;clear hbk hb3 y0 y1 y2;have y2:=HK3.out.at 2 _ rfl))
 obtain⟨H0,hH0⟩:∃ H,H=w2.heap.size:=⟨_,rfl⟩
 rw [← hH0]at HB3 hz23
 have HLT:=Zh (p:=w.heap.size+1<H0) (by rw [hH0];exact HZ2.out.lt)
 clear y2 hH0
 obtain⟨g2,hg2⟩:∃ g,g=w.heap.size+1:=⟨_,rfl⟩
 have HG2:=Zh hg2
 rw [← hg2]at HZ3 HLT ⊢
 clear hg2 HZ1 HZ2 HK0 HK1 HK2 HW0 HW1 HW2 HCK HK3 hz0 hz23
 go_loopw [6,26] (fun fv iv wr => ∃(k:Nat) (rows:List SRow) (acc:Yd.Acc) (N:Nat) (kv tv:Value),k≤k0∧iv=Z O k∧fv=Z O 0∧Hid (Book wr (fun j=>H0≤j∧j<wr.heap.size) B bef aft rows acc k N kv tv m)∧Hid (N≤20*k)∧
   Hid (SmallSt k (stOf rows acc))∧Hid (Yd.follow bef aft ds k0=run bef aft (stOf rows acc) k ((ds.take k0).drop k))∧Hid (Blk wr g2 36 #[Zl none 0 0,Z O 0,Z O 0,Z O 0,Z O 0,Z O 0,Z O 0,Z O 0,Z O 0,Z O 0,Z O 0,Z O 0,Z O 0])∧Hid (Below w.heap.size w wr)) (fun _ iv _=>k0-(intOf iv).toNat)
 case atStart=>exact⟨0,[],.zero,0,_,_,Nat.zero_le _,rfl,rfl,Zh (HB3.out.bounded.wide fun j hj=>⟨hj.1.1,hj.2⟩),Zh (Nat.zero_le _),Zh small_empty,Zh (by rw [List.drop_zero];rfl),HZ3,HW3⟩
 case round =>
  obtain⟨k,rows,acc,N,kv,tv,hk,rfl,rfl,HBr,HNr,HSr,HFr,HZr,HWr⟩:=hrel
  by_cases hlt0:k<k0
  ·obtain⟨b,off,rfl,hbl,⟨hnc,hcm⟩,hcells⟩:=HCS.out (by rw [← HN.out];omega)
   have hlt:k<ds.length:=by rw [← HN.out];omega
   have HCS2:=Zh hcells
   have HBL:=Zh hbl
   have hdrop:(ds.take k0).drop k=ds[k]! :: (ds.take k0).drop (k+1):=by
    have h1:k<(ds.take k0).length:=by rw [List.length_take];omega
    rw [drop_get h1,getElem!_pos (ds.take k0) k h1,getElem!_pos ds k hlt,List.getElem_take]
   have hmem:=get_in hlt
   obtain⟨d,hd⟩:∃ d,d=ds[k]! :=⟨_,rfl⟩
   rw [← hd]at hdrop hmem
   have hfit:=HFIT.out _ hmem
   have hszd:=HSZ.out _ hmem
   have hrun:=HFr.out
   rw [hdrop]at hrun
   have hN2:N+40≤1000000:=by have:=HNr.out;omega
   have hk12:k≤12:=by omega
   obtain⟨⟨kind,dy,code,other,⟨al,ah⟩,⟨bl,bh⟩⟩,hd2⟩:∃ d',d'=d:=⟨_,rfl⟩
   have hdk:=hd2.trans hd
   have c0:=(show wr.cell? ⟨b,off+k*8,none⟩=some (Z O kind)from(HWr.out.cell (p:=⟨b,off+k*8+0,none⟩) HBL.out).trans (HCS2.out k hlt 0 _ (by rw [← hdk];rfl)))
   have c1:=(show wr.cell? ⟨b,off+k*8+1,none⟩=some (Z O dy)from(HWr.out.cell (p:=⟨b,off+k*8+1,none⟩) HBL.out).trans (HCS2.out k hlt 1 _ (by rw [← hdk];rfl)))
   have c2:=(show wr.cell? ⟨b,off+k*8+2,none⟩=some (Zs code)from(HWr.out.cell (p:=⟨b,off+k*8+2,none⟩) HBL.out).trans (HCS2.out k hlt 2 _ (by rw [← hdk];rfl)))
   have c3:=(show wr.cell? ⟨b,off+k*8+3,none⟩=some (Zs other)from(HWr.out.cell (p:=⟨b,off+k*8+3,none⟩) HBL.out).trans (HCS2.out k hlt 3 _ (by rw [← hdk];rfl)))
   have c4:=(show wr.cell? ⟨b,off+k*8+4,none⟩=some (Z O al)from(HWr.out.cell (p:=⟨b,off+k*8+4,none⟩) HBL.out).trans (HCS2.out k hlt 4 _ (by rw [← hdk];rfl)))
   have c5:=(show wr.cell? ⟨b,off+k*8+5,none⟩=some (Z O ah)from(HWr.out.cell (p:=⟨b,off+k*8+5,none⟩) HBL.out).trans (HCS2.out k hlt 5 _ (by rw [← hdk];rfl)))
   have c6:=(show wr.cell? ⟨b,off+k*8+6,none⟩=some (Z O bl)from(HWr.out.cell (p:=⟨b,off+k*8+6,none⟩) HBL.out).trans (HCS2.out k hlt 6 _ (by rw [← hdk];rfl)))
   have c7:=(show wr.cell? ⟨b,off+k*8+7,none⟩=some (Z O bh)from(HWr.out.cell (p:=⟨b,off+k*8+7,none⟩) HBL.out).trans (HCS2.out k hlt 7 _ (by rw [← hdk];rfl)))
   have HK:=Zh (Blk.new wr 55 #[Z O kind,Z O dy,Zs code,Zs other,Z O al,Z O ah,Z O bl,Z O bh])
   have HBa:=Zh (HBr.out.alloc (.cells #[Z O kind,Z O dy,Zs code,Zs other,Z O al,Z O ah,Z O bl,Z O bh] 55))
   have HWa:=Zh (HWr.out.alloc HWr.out.size (.cells #[Z O kind,Z O dy,Zs code,Zs other,Z O al,Z O ah,Z O bl,Z O bh] 55))
   have HZa:=Zh (HZr.out.alloc (.cells #[Z O kind,Z O dy,Zs code,Zs other,Z O al,Z O ah,Z O bl,Z O bh] 55))
   have hza:(wr.alloc (.cells #[Z O kind,Z O dy,Zs code,Zs other,Z O al,Z O ah,Z O bl,Z O bh] 55)).heap.size=wr.heap.size+1:=World.size_alloc _ _
   have hCa:∀ j,(H0≤j∧j<wr.heap.size)→j<(wr.alloc (.cells #[Z O kind,Z O dy,Zs code,Zs other,Z O al,Z O ah,Z O bl,Z O bh] 55)).heap.size:=fun j hj=>by rw [hza];omega
   have hkI:(k:Int)<(k0:Int):=by omega
   by_cases hf:fault bef aft (stOf rows acc) d=0
   ·have HE:=Zh (enter_yes HBa.out hCa hk12 HSr.out hN2 d hfit hszd hf)
    have hst:=small_step HSr.out hfit hf
    rw [show run bef aft (stOf rows acc) k (d :: (ds.take k0).drop (k+1))=run bef aft (deed (stOf rows acc) d k) (k+1) ((ds.take k0).drop (k+1))from by rw [run,if_pos hf]]at hrun
    have HST:=Zh hst;have HRUN:=Zh hrun
    subst hd2
    simp only [deedCells]at HE
    clear hcells hbl hdrop hd hlt hmem hfit hszd hrun hst hf hdk hCa
    go_wp2_with (go_at_call 42;refine HE.out.mono ?_;rintro e w5 ⟨N5,hN5,rfl,hbes,rows5,kv5,tv5,hrows5,hbk5⟩;have HN5:=Zh hN5;have HBES:=Zh hbes;have HR5:=Zh hrows5;have HB5:=Zh hbk5;clear hN5 hbes hrows5 hbk5)
    have hb5:Below w.heap.size w w5:=HWa.out.trans (HBES.out.below (fun j hj=>by have h7:=HG2.out;have h8:=HLT.out;have h9:=hj.1;omega) HWa.out.size)
    go_roundw
    case rel =>
     refine⟨k+1,rows5,(deed (stOf rows acc) ⟨kind,dy,code,other,⟨al,ah⟩,⟨bl,bh⟩⟩ k).acc,N5,kv5,tv5,by omega,by go_num,rfl,Zh ?_,Zh ?_,Zh ?_,Zh ?_,Zh ?_,Zh hb5⟩
     ·show Book w5 _ B bef aft rows5 _ ((k:Int)+1) N5 kv5 tv5 m
      refine HB5.out.bounded.wide fun j hj=>⟨?_,hj.2⟩
      rcases hj.1 with h1 | h1
      ·exact h1.1
      ·have h3:=HBr.out.inB;rw [hza]at h1;omega
     ·have:=HN5.out;have:=HNr.out;omega
     ·rw [stOf,HR5.out];exact HST.out
     ·rw [stOf,HR5.out];exact HRUN.out
     ·exact HBES.out.blk HZa.out (fun h1=>by have h8:=HLT.out;have h9:=h1.1;omega)
    case measure=>simp [intOf];omega
   ·have HE:=Zh (enter_no HBa.out hCa hk12 HSr.out hN2 d hfit hszd hf)
    rw [show run bef aft (stOf rows acc) k (d :: (ds.take k0).drop (k+1))=(stOf rows acc,k,fault bef aft (stOf rows acc) d)from by rw [run,if_neg hf]]at hrun
    obtain⟨f,hff⟩:∃ f,f=fault bef aft (stOf rows acc) d:=⟨_,rfl⟩
    rw [← hff]at HE hrun hf
    have HRUN:=Zh hrun
    have df:(f == 0)=false:=by simpa using hf
    have dg:(f != 0)=true:=by simpa using hf
    subst hd2
    simp only [deedCells]at HE
    clear hcells hbl hdrop hd hlt hmem hfit hszd hrun hff hf hdk hCa
    go_upto_region 9 with(go_at_call 42;refine HE.out.mono ?_;rintro e w5 ⟨rfl,hb5⟩;have HBt:=Zh (HBa.out.below hb5);have HWt:=Zh (HWa.out.trans (hb5.mono HWa.out.size));have HZt:=Zh (HZa.out.below hb5);clear hb5)
    obtain⟨⟨aA,aB⟩,⟨aC,aD⟩,⟨aE,aF⟩,⟨aG,aH⟩,⟨aI,aJ⟩,⟨aK,aL⟩⟩:=acc
    obtain⟨ta,tn,tc,rfl⟩:=row_slice HBt.out.things
    go_upto_region 11 with(fail)
    refine region_till [] (fun w'=>w'.cell? ⟨B,17,none⟩=some (Z O k)) 11 [false,false,false,false,false,false,false,false,false,false,false] (by kernel_rfl) rfl rfl ?_
    have MK1:=fun(W:World) (h:(fun w'=>w'.cell? ⟨B,17,none⟩=some (Z O k)) W)=>Zh h
    have HBd:=Zh (HBt.out.below (Below.drew (Below.refl w5.heap.size w5)))
    have HZd:=Zh (p:=Blk w5.drew g2 36 #[Zl none 0 0,Z O 0,Z O 0,Z O 0,Z O 0,Z O 0,Z O 0,Z O 0,Z O 0,Z O 0,Z O 0,Z O 0,Z O 0]) (HZt.out)
    have HWd:=Zh (HWt.out.drew)
    clear HBt HZt HWt
    generalize w5.drew=Wd at HBd HZd HWd ⊢
    have HT:=Zh (HBd.out.blk.at 17 (Z O k) rfl)
    refine till_pure (i:=0) (v:=.pointer (some ⟨B,0,none⟩)) rfl rfl (by kernel_rfl) (fun _ _ _ h=>h) (yields_of rfl (fun w' _=>by simp [go_sem])) (fun _=>HT.out) ?_
    simp only [Za,Zb,Zc]
    refine till_pure (i:=2) (v:=.pointer (some ⟨B,0,none⟩)) rfl rfl (by kernel_rfl) (fun _ _ _ h=>h) (yields_of rfl (fun w' _=>by simp [go_sem])) (fun _=>HT.out) ?_
    simp only [Za,Zb,Zc]
    refine till_pure (i:=3) (v:=.pointer (some ⟨B,0,none⟩)) rfl rfl (by kernel_rfl) (fun _ _ _ h=>h) (yields_of rfl (fun w' _=>by simp [go_sem])) (fun _=>HT.out) ?_
    simp only [Za,Zb,Zc]
    refine till_pure (i:=4) (v:=.pointer (some ⟨B,17,none⟩)) rfl rfl (by kernel_rfl) (fun _ _ _ h=>h) (yields_of rfl (fun w' _=>by simp [go_sem])) (fun _=>HT.out) ?_
    simp only [Za,Zb,Zc]
    refine till_load (i:=5) (v:=Z O k) rfl rfl (by kernel_rfl) (fun _ _ _ h=>h) (yields_of rfl (fun w' hw'=>by have hcx:w'.cell? ⟨B,17,none⟩=some (Z O k):=hw';simp [go_sem,hcx])) (fun _=>HT.out) ?_
    simp only [Za,Zb,Zc]
    refine till_pure (i:=6) (v:=Z O f) rfl rfl (by kernel_rfl) (fun _ _ _ h=>h) (yields_of rfl (fun w' _=>by simp [go_sem])) (fun _=>HT.out) ?_
    simp only [Za,Zb,Zc]
    refine till_only (j:=1) (by kernel_rfl) rfl ?_
    go_wp2_with (go_at_call 43;refine(standing_row HBd.out).mono ?_;rintro e w6 ⟨rfl,hb6⟩;have HB6:=Zh (HBd.out.below hb6);have HZ6:=Zh (HZd.out.below hb6);have HW6:=Zh (HWd.out.trans (hb6.mono HWd.out.size));clear hb6)
    clear HT
    have HT:=Zh (HB6.out.blk.at 17 (Z O k) rfl)
    refine⟨fun _=>HT.out,?_⟩
    try simp only [Za,Zb,Zc]
    refine till_only (j:=7) (by kernel_rfl) rfl ?_
    refine Zw rfl 36 (.tmp 4) (.tmp 37) rfl g2 0 #[Zl ta tn tc,Z O aA,Z O aB,Z O aC,Z O aD,Z O aE,Z O aF,Z O aG,Z O aH,Z O aI,Z O aJ,Z O aK,Z O aL] rfl rfl (HZ6.out.there (o:=0) (n:=13) (Zn rfl)) size_standing (by simp [Value.oneCell']) ?_
    change wpList _ _ _ _ _ (w6.setCells g2 0 [Zl ta tn tc,Z O aA,Z O aB,Z O aC,Z O aD,Z O aE,Z O aF,Z O aG,Z O aH,Z O aI,Z O aJ,Z O aK,Z O aL])
    clear HT
    have HT:=Zh ((HB6.out.blk.apart (show B≠g2 from fun e=>by have h8:=HLT.out;have h9:=HB6.out.inB.1;omega) 0 [Zl ta tn tc,Z O aA,Z O aB,Z O aC,Z O aD,Z O aE,Z O aF,Z O aG,Z O aH,Z O aI,Z O aJ,Z O aK,Z O aL]).at 17 (Z O k) rfl)
    have HZ7:=Zh (HZ6.out.stored (old:=[Zl none 0 0,Z O 0,Z O 0,Z O 0,Z O 0,Z O 0,Z O 0,Z O 0,Z O 0,Z O 0,Z O 0,Z O 0,Z O 0]) [Zl ta tn tc,Z O aA,Z O aB,Z O aC,Z O aD,Z O aE,Z O aF,Z O aG,Z O aH,Z O aI,Z O aJ,Z O aK,Z O aL] rfl)
    have HS7:=Zh (HB6.out.stands.setCells HZ6.out (by decide) (by decide) 0 [Zl ta tn tc,Z O aA,Z O aB,Z O aC,Z O aD,Z O aE,Z O aF,Z O aG,Z O aH,Z O aI,Z O aJ,Z O aK,Z O aL])
    have HW7:=Zh (below_setCells HW6.out (show w.heap.size≤g2 from by have h8:=HG2.out;omega) [Zl ta tn tc,Z O aA,Z O aB,Z O aC,Z O aD,Z O aE,Z O aF,Z O aG,Z O aH,Z O aI,Z O aJ,Z O aK,Z O aL] 0)
    change Till _ _ _ _∧wpAnyT _ _ _ _ _ _ _ _ _ _
    generalize World.setCells _ _ _ _=w7 at HT HZ7 HS7 HW7 ⊢
    refine⟨fun _=>HT.out,?_⟩
    try simp only [Za,Zb,Zc]
    refine till_pure (i:=8) (v:=Z O k) rfl rfl (by kernel_rfl) (fun _ _ _ h=>h) (yields_of rfl (fun w' _=>by simp [go_sem])) (fun _=>HT.out) ?_
    simp only [Za,Zb,Zc]
    refine till_pure (i:=9) (v:=Z O f) rfl rfl (by kernel_rfl) (fun _ _ _ h=>h) (yields_of rfl (fun w' _=>by simp [go_sem])) (fun _=>HT.out) ?_
    simp only [Za,Zb,Zc]
    refine till_pure (i:=10) (v:=Z O 0) rfl rfl (by kernel_rfl) (fun _ _ _ h=>h) (yields_of rfl (fun w' _=>by simp [go_sem])) (fun _=>HT.out) ?_
    simp only [Za,Zb,Zc]
    refine till_done (by kernel_rfl) ?_
    have r0:=HZ7.out.at 0 (Zl ta tn tc) rfl
    have r1:=HZ7.out.at 1 (Z O aA) rfl
    have r2:=HZ7.out.at 2 (Z O aB) rfl
    have r3:=HZ7.out.at 3 (Z O aC) rfl
    have r4:=HZ7.out.at 4 (Z O aD) rfl
    have r5:=HZ7.out.at 5 (Z O aE) rfl
    have r6:=HZ7.out.at 6 (Z O aF) rfl
    have r7:=HZ7.out.at 7 (Z O aG) rfl
    have r8:=HZ7.out.at 8 (Z O aH) rfl
    have r9:=HZ7.out.at 9 (Z O aI) rfl
    have r10:=HZ7.out.at 10 (Z O aJ) rfl
    have r11:=HZ7.out.at 11 (Z O aK) rfl
    have r12:=HZ7.out.at 12 (Z O aL) rfl
    go_wp2
    refine bodyPost_ret (v:=.tuple #[.agg #[Zl ta tn tc,Z O aA,Z O aB,Z O aC,Z O aD,Z O aE,Z O aF,Z O aG,Z O aH,Z O aI,Z O aJ,Z O aK,Z O aL],Z O k,Z O f,Z O 0]) (by simp [results,Try.results16,go_sem,r0,r1,r2,r3,r4,r5,r6,r7,r8,r9,r10,r11,r12]) rfl ?_
    exact⟨rows,Zl ta tn tc,_,k,f,HRUN.out,HSr.out,hk,rfl,HW7.out,HS7.out⟩
  ·have hkn:k=k0:=by omega
   subst hkn
   have HRUN:=Zh (p:=Yd.follow bef aft ds k=(stOf rows acc,k,0)) (by rw [HFr.out,List.drop_eq_nil_of_le (by rw [List.length_take];omega)];rfl)
   have HBt:=HBr;have HZt:=HZr;have HWt:=HWr
   obtain⟨⟨aA,aB⟩,⟨aC,aD⟩,⟨aE,aF⟩,⟨aG,aH⟩,⟨aI,aJ⟩,⟨aK,aL⟩⟩:=acc
   obtain⟨ta,tn,tc,rfl⟩:=row_slice HBt.out.things
   go_upto_region 11 with(fail)
   refine region_till [] (fun w'=>w'.cell? ⟨B,17,none⟩=some (Z O k)) 11 [false,false,false,false,false,false,false,false,false,false,false] (by kernel_rfl) rfl rfl ?_
   have MK2:=fun(W:World) (h:(fun w'=>w'.cell? ⟨B,17,none⟩=some (Z O k)) W)=>Zh h
   have HBd:=Zh (HBt.out.below (Below.drew (Below.refl wr.heap.size wr)))
   have HZd:=Zh (p:=Blk wr.drew g2 36 #[Zl none 0 0,Z O 0,Z O 0,Z O 0,Z O 0,Z O 0,Z O 0,Z O 0,Z O 0,Z O 0,Z O 0,Z O 0,Z O 0]) (HZt.out)
   have HWd:=Zh (HWt.out.drew)
   clear HBt HZt HWt
   generalize wr.drew=Wd at HBd HZd HWd ⊢
   have HT:=Zh (HBd.out.blk.at 17 (Z O k) rfl)
   refine till_pure (i:=0) (v:=.pointer (some ⟨B,0,none⟩)) rfl rfl (by kernel_rfl) (fun _ _ _ h=>h) (yields_of rfl (fun w' _=>by simp [go_sem])) (fun _=>HT.out) ?_
   simp only [Za,Zb,Zc]
   refine till_pure (i:=2) (v:=.pointer (some ⟨B,0,none⟩)) rfl rfl (by kernel_rfl) (fun _ _ _ h=>h) (yields_of rfl (fun w' _=>by simp [go_sem])) (fun _=>HT.out) ?_
   simp only [Za,Zb,Zc]
   refine till_pure (i:=3) (v:=.pointer (some ⟨B,0,none⟩)) rfl rfl (by kernel_rfl) (fun _ _ _ h=>h) (yields_of rfl (fun w' _=>by simp [go_sem])) (fun _=>HT.out) ?_
   simp only [Za,Zb,Zc]
   refine till_pure (i:=4) (v:=.pointer (some ⟨B,17,none⟩)) rfl rfl (by kernel_rfl) (fun _ _ _ h=>h) (yields_of rfl (fun w' _=>by simp [go_sem])) (fun _=>HT.out) ?_
   simp only [Za,Zb,Zc]
   refine till_load (i:=5) (v:=Z O k) rfl rfl (by kernel_rfl) (fun _ _ _ h=>h) (yields_of rfl (fun w' hw'=>by have hcx:w'.cell? ⟨B,17,none⟩=some (Z O k):=hw';simp [go_sem,hcx])) (fun _=>HT.out) ?_
   simp only [Za,Zb,Zc]
   refine till_pure (i:=6) (v:=Z O 0) rfl rfl (by kernel_rfl) (fun _ _ _ h=>h) (yields_of rfl (fun w' _=>by simp [go_sem])) (fun _=>HT.out) ?_
   simp only [Za,Zb,Zc]
   refine till_only (j:=1) (by kernel_rfl) rfl ?_
   go_wp2_with (go_at_call 43;refine(standing_row HBd.out).mono ?_;rintro e w6 ⟨rfl,hb6⟩;have HB6:=Zh (HBd.out.below hb6);have HZ6:=Zh (HZd.out.below hb6);have HW6:=Zh (HWd.out.trans (hb6.mono HWd.out.size));clear hb6)
   clear HT
   have HT:=Zh (HB6.out.blk.at 17 (Z O k) rfl)
   refine⟨fun _=>HT.out,?_⟩
   try simp only [Za,Zb,Zc]
   refine till_only (j:=7) (by kernel_rfl) rfl ?_
   refine Zw rfl 36 (.tmp 4) (.tmp 37) rfl g2 0 #[Zl ta tn tc,Z O aA,Z O aB,Z O aC,Z O aD,Z O aE,Z O aF,Z O aG,Z O aH,Z O aI,Z O aJ,Z O aK,Z O aL] rfl rfl (HZ6.out.there (o:=0) (n:=13) (Zn rfl)) size_standing (by simp [Value.oneCell']) ?_
   change wpList _ _ _ _ _ (w6.setCells g2 0 [Zl ta tn tc,Z O aA,Z O aB,Z O aC,Z O aD,Z O aE,Z O aF,Z O aG,Z O aH,Z O aI,Z O aJ,Z O aK,Z O aL])
   clear HT
   have HT:=Zh ((HB6.out.blk.apart (show B≠g2 from fun e=>by have h8:=HLT.out;have h9:=HB6.out.inB.1;omega) 0 [Zl ta tn tc,Z O aA,Z O aB,Z O aC,Z O aD,Z O aE,Z O aF,Z O aG,Z O aH,Z O aI,Z O aJ,Z O aK,Z O aL]).at 17 (Z O k) rfl)
   have HZ7:=Zh (HZ6.out.stored (old:=[Zl none 0 0,Z O 0,Z O 0,Z O 0,Z O 0,Z O 0,Z O 0,Z O 0,Z O 0,Z O 0,Z O 0,Z O 0,Z O 0]) [Zl ta tn tc,Z O aA,Z O aB,Z O aC,Z O aD,Z O aE,Z O aF,Z O aG,Z O aH,Z O aI,Z O aJ,Z O aK,Z O aL] rfl)
   have HS7:=Zh (HB6.out.stands.setCells HZ6.out (by decide) (by decide) 0 [Zl ta tn tc,Z O aA,Z O aB,Z O aC,Z O aD,Z O aE,Z O aF,Z O aG,Z O aH,Z O aI,Z O aJ,Z O aK,Z O aL])
   have HW7:=Zh (below_setCells HW6.out (show w.heap.size≤g2 from by have h8:=HG2.out;omega) [Zl ta tn tc,Z O aA,Z O aB,Z O aC,Z O aD,Z O aE,Z O aF,Z O aG,Z O aH,Z O aI,Z O aJ,Z O aK,Z O aL] 0)
   change Till _ _ _ _∧wpAnyT _ _ _ _ _ _ _ _ _ _
   generalize World.setCells _ _ _ _=w7 at HT HZ7 HS7 HW7 ⊢
   refine⟨fun _=>HT.out,?_⟩
   try simp only [Za,Zb,Zc]
   refine till_pure (i:=8) (v:=Z O k) rfl rfl (by kernel_rfl) (fun _ _ _ h=>h) (yields_of rfl (fun w' _=>by simp [go_sem])) (fun _=>HT.out) ?_
   simp only [Za,Zb,Zc]
   refine till_pure (i:=9) (v:=Z O 0) rfl rfl (by kernel_rfl) (fun _ _ _ h=>h) (yields_of rfl (fun w' _=>by simp [go_sem])) (fun _=>HT.out) ?_
   simp only [Za,Zb,Zc]
   refine till_pure (i:=10) (v:=Z O 0) rfl rfl (by kernel_rfl) (fun _ _ _ h=>h) (yields_of rfl (fun w' _=>by simp [go_sem])) (fun _=>HT.out) ?_
   simp only [Za,Zb,Zc]
   refine till_done (by kernel_rfl) ?_
   have r0:=HZ7.out.at 0 (Zl ta tn tc) rfl
   have r1:=HZ7.out.at 1 (Z O aA) rfl
   have r2:=HZ7.out.at 2 (Z O aB) rfl
   have r3:=HZ7.out.at 3 (Z O aC) rfl
   have r4:=HZ7.out.at 4 (Z O aD) rfl
   have r5:=HZ7.out.at 5 (Z O aE) rfl
   have r6:=HZ7.out.at 6 (Z O aF) rfl
   have r7:=HZ7.out.at 7 (Z O aG) rfl
   have r8:=HZ7.out.at 8 (Z O aH) rfl
   have r9:=HZ7.out.at 9 (Z O aI) rfl
   have r10:=HZ7.out.at 10 (Z O aJ) rfl
   have r11:=HZ7.out.at 11 (Z O aK) rfl
   have r12:=HZ7.out.at 12 (Z O aL) rfl
   go_wp2
   refine bodyPost_ret (v:=.tuple #[.agg #[Zl ta tn tc,Z O aA,Z O aB,Z O aC,Z O aD,Z O aE,Z O aF,Z O aG,Z O aH,Z O aI,Z O aJ,Z O aK,Z O aL],Z O k,Z O 0,Z O 0]) (by simp [results,Try.results16,go_sem,r0,r1,r2,r3,r4,r5,r6,r7,r8,r9,r10,r11,r12]) rfl ?_
   exact⟨rows,Zl ta tn tc,_,k,0,HRUN.out,HSr.out,Nat.le_refl _,rfl,HW7.out,HS7.out⟩
end Go.Proofs.Ytgekekhbhkgekaa
