/- Two standings of the same stacks are equal. Two standings of the same stacks are equal. -/
import Derived.Test.YtgekekhbhkgekaaQYFollow
namespace Go.Proofs.Ytgekekhbhkgekaa
open Go Go.RowKit Go.Shelf Yd
open _root_.Go.Value renaming int → Z, string → Zs, slice → Zl
open _root_.Go.IntKind renaming i64 → O
open _root_.Go.Lib renaming hid → Zh
open _root_.List renaming setIfInBounds_toArray → Za, set_cons_succ → Zb, set_cons_zero → Zc
open _root_.Nat renaming le_of_ble_eq_true → Zn
open _root_.Go renaming wpList_store_mid → Zw
set_option maxRecDepth 100000
set_option maxHeartbeats 16000000
theorem ints_at {w:World}{v:Value}{l:List Int}(h:w.ownsRow 0 3 1 v l.length (intCells l)) :
  ∃(a:Option Addr) (c:Nat),v=Zl a l.length c∧(0<l.length→∃ g,a=some ⟨g,0,none⟩∧g<w.heap.size∧∀ k,k<l.length→w.cell? ⟨g,k,none⟩=some (Z O l[k]!)):=by
 rcases Nat.eq_zero_or_pos l.length with h0 | h0
 ·obtain⟨a,n,c,rfl⟩:=row_slice h
  have:=row_len h
  subst this
  exact⟨a,c,rfl,fun h1=>by omega⟩
 ·obtain⟨g,cap,cur,hv,hb,hc,_,hs,ht⟩:=row_block h h0
  refine⟨_,cap,hv,fun _=>⟨g,rfl,hb.lt,fun k hk=>?_⟩⟩
  rw [hb.cell]
  have e:(intCells l)[k]? = some (Z O l[k]!):=by
   unfold intCells
   rw [List.getElem?_map,List.getElem?_eq_getElem hk,getElem!_pos l k hk];rfl
  rw [← ht,Nat.mul_one,List.getElem?_take,if_pos (by omega)]at e
  simpa using e
theorem equal_calls {v v':Value}{l:List Int}{w:World}(h:w.ownsRow 0 3 1 v l.length (intCells l))(h':w.ownsRow 0 3 1 v' l.length (intCells l))(hl:l.length≤1000) :
  Calls Try.prog 46 #[v,v'] w fun e w'=>e=.returned (.bool true)∧Below w.heap.size w w':=by
 obtain⟨a,c,rfl,hc⟩:=ints_at h
 obtain⟨a',c',rfl,hc'⟩:=ints_at h'
 have HC:=Zh hc;have HC':=Zh hc'
 obtain⟨n,hn⟩:∃ n,n=l.length:=⟨_,rfl⟩
 have HN:=Zh hn
 rw [← hn]at hl ⊢
 clear h h' hc hc' hn
 go_enter Try.func46,Try.ntmps46
 go_wp2
 go_loopw [5] (fun iv wr => ∃(k:Nat),k≤n∧iv=Z O k∧Hid (Below w.heap.size w wr)) (fun iv _=>n-(intOf iv).toNat)
 case atStart=>exact⟨0,Nat.zero_le _,rfl,Zh (Below.refl _ _)⟩
 case round =>
  obtain⟨k,hk,rfl,HB⟩:=hrel
  by_cases hlt:k<n
  ·obtain⟨g,rfl,hg,hgc⟩:=HC.out (by rw [← HN.out];omega)
   obtain⟨g',rfl,hg',hgc'⟩:=HC'.out (by rw [← HN.out];omega)
   have q0:=cell_regrown ((HB.out.cell (p:=⟨g,k,none⟩) hg).trans (hgc k (by rw [← HN.out];exact hlt)))
   have q1:=cell_regrown ((HB.out.cell (p:=⟨g',k,none⟩) hg').trans (hgc' k (by rw [← HN.out];exact hlt)))
   have hkI:(k:Int)<(n:Int):=by omega
   clear hgc hgc'
   go_upto_region 6 with(fail)
   refine wp_region_quiet_below (by kernel_rfl) (by kernel_rfl) ?_
   repeat(go_big_quiet_step (fail))
   refine wpQuiet_nil ?_
   intro v0 hw'
   have hb8:Below wr.heap.size wr v0:=by obtain⟨⟨dq,osq⟩,hw''⟩:=hw';rw [hw''];exact below_regrown wr dq osq
   clear hw' q0 q1
   go_wp2
   go_roundw
   case rel=>exact⟨k+1,by omega,by go_num,Zh (HB.out.trans (hb8.mono HB.out.size))⟩
   case measure=>simp [intOf];omega
  ·have hkn:k=n:=by omega
   subst hkn
   go_wp2
   go_ret
   exact⟨rfl,HB.out⟩
theorem Stands.row {w:World}{l:List SRow}{tv:Value}(h:Stands w l tv){k:Nat}{p:SRow}(hk:l[k]? = some p) :
  ∃ g cap,tv=Zl (some ⟨g,0,none⟩) l.length cap∧g<w.heap.size∧∀ i,i<8→w.cell? ⟨g,k*8+i,none⟩=(rowCells p)[i]? := by
 have hlt:k<l.length:=(List.getElem?_eq_some_iff.1 hk).1
 obtain⟨g,cap,cur,hv,hb,hc,_,hs,ht⟩:=row_block h.things (by omega)
 refine⟨g,cap,hv,hb.lt,fun i hi=>?_⟩
 rw [hb.cell,← rows_get hk i hi,← ht,Nat.mul_comm k 8,List.getElem?_take,if_pos (by omega)]
 simp
theorem stands_slice {w:World}{l:List SRow}{tv:Value}(h:Stands w l tv):∃ a c,tv=Zl a l.length c:=by
 obtain⟨a,n,c,rfl⟩:=row_slice h.things
 exact⟨a,c,by rw [row_len h.things]⟩
theorem same_rows {w:World}{rows rows':List SRow}{a a':Option Addr}{n c c':Nat}{aA aB aC aD aE aF aG aH aI aJ aK aL:Int}(h:Stands w rows (Zl a n c))(h':Stands w rows' (Zl a' n c'))(he:rows.map (·.1)=rows'.map (·.1)) :
  Calls Try.prog 20 #[.agg #[Zl a n c,Z O aA,Z O aB,Z O aC,Z O aD,Z O aE,Z O aF,Z O aG,Z O aH,Z O aI,Z O aJ,Z O aK,Z O aL],.agg #[Zl a' n c',Z O aA,Z O aB,Z O aC,Z O aD,Z O aE,Z O aF,Z O aG,Z O aH,Z O aI,Z O aJ,Z O aK,Z O aL]] w fun e w'=>e=.returned (.bool true)∧Below w.heap.size w w':=by
 have hn1:=row_len h.things
 have hn2:=row_len h'.things
 have hlen:rows.length=rows'.length:=by have:=congrArg List.length he;simpa using this
 have hfew:=h.few
 have hmix:Try.prog.follows .mixedOrders=true:=by kernel_rfl
 have HH:=Zh h;have HH':=Zh h';have HE:=Zh he;have HN:=Zh hn1;have HN':=Zh hn2
 have hn8:n≤8:=by omega
 have HK0:=Zh ((Blk.new w 36 #[Zl a n c,Z O aA,Z O aB,Z O aC,Z O aD,Z O aE,Z O aF,Z O aG,Z O aH,Z O aI,Z O aJ,Z O aK,Z O aL]).alloc (.cells #[Zl a' n c',Z O aA,Z O aB,Z O aC,Z O aD,Z O aE,Z O aF,Z O aG,Z O aH,Z O aI,Z O aJ,Z O aK,Z O aL] 36))
 have HL0:=Zh (Blk.new (w.alloc (.cells #[Zl a n c,Z O aA,Z O aB,Z O aC,Z O aD,Z O aE,Z O aF,Z O aG,Z O aH,Z O aI,Z O aJ,Z O aK,Z O aL] 36)) 36 #[Zl a' n c',Z O aA,Z O aB,Z O aC,Z O aD,Z O aE,Z O aF,Z O aG,Z O aH,Z O aI,Z O aJ,Z O aK,Z O aL])
 rw [World.size_alloc]at HL0
 have HB0:=Zh (((Below.refl w.heap.size w).alloc (Nat.le_refl _) (.cells #[Zl a n c,Z O aA,Z O aB,Z O aC,Z O aD,Z O aE,Z O aF,Z O aG,Z O aH,Z O aI,Z O aJ,Z O aK,Z O aL] 36)).alloc (by rw [World.size_alloc];omega) (.cells #[Zl a' n c',Z O aA,Z O aB,Z O aC,Z O aD,Z O aE,Z O aF,Z O aG,Z O aH,Z O aI,Z O aJ,Z O aK,Z O aL] 36))
 clear h h' he hn1 hn2 hfew hlen
 go_enter Try.func20,Try.ntmps20
 go_wp2
 obtain⟨g3,hg3⟩:∃ g,g=w.heap.size+1:=⟨_,rfl⟩
 rw [← hg3]at HL0 ⊢
 obtain⟨g2,hg2⟩:∃ g,g=w.heap.size:=⟨_,rfl⟩
 rw [← hg2]at HK0 ⊢
 have HG2:=Zh hg2
 clear hg2 hg3
 go_loopw [5] (fun iv wr => ∃(k:Nat),k≤n∧iv=Z O k∧Hid (Blk wr g2 36 #[Zl a n c,Z O aA,Z O aB,Z O aC,Z O aD,Z O aE,Z O aF,Z O aG,Z O aH,Z O aI,Z O aJ,Z O aK,Z O aL])∧Hid (Blk wr g3 36 #[Zl a' n c',Z O aA,Z O aB,Z O aC,Z O aD,Z O aE,Z O aF,Z O aG,Z O aH,Z O aI,Z O aJ,Z O aK,Z O aL])∧Hid (Below w.heap.size w wr)) (fun iv _=>n-(intOf iv).toNat)
 case atStart=>exact⟨0,Nat.zero_le _,rfl,HK0,HL0,by rw [HG2.out]at *;exact HB0⟩
 case round =>
  obtain⟨k,hk,rfl,HK,HL,HB⟩:=hrel
  have y0:=HK.out.at 0 _ rfl
  have z0:=HL.out.at 0 _ rfl
  by_cases hlt:k<n
  ·have hkr:k<rows.length:=by rw [← HN.out];exact hlt
   have hkr':k<rows'.length:=by rw [← HN'.out];exact hlt
   obtain⟨p,hp⟩:∃ p,rows[k]? = some p:=⟨_,List.getElem?_eq_getElem hkr⟩
   obtain⟨q,hq⟩:∃ q,rows'[k]? = some q:=⟨_,List.getElem?_eq_getElem hkr'⟩
   have hpq:p.1=q.1:=by
    have e1:=row_map hp
    have e2:=row_map hq
    rw [HE.out,e2]at e1
    exact(Option.some.inj e1).symm
   have HSr:=Zh (HH.out.below HB.out)
   have HSr':=Zh (HH'.out.below HB.out)
   obtain⟨gp,cp,hvp,hgp,hcp⟩:=HSr.out.row hp
   obtain⟨gq,cq,hvq,hgq,hcq⟩:=HSr'.out.row hq
   have hfp:=HSr.out.froms p (List.mem_of_getElem? hp)
   have hfq:=HSr'.out.froms q (List.mem_of_getElem? hq)
   have hle:=HSr.out.fromsLen p (List.mem_of_getElem? hp)
   obtain⟨fpa,fpn,fpc,hfpv⟩:=row_slice hfp
   obtain⟨fqa,fqn,fqc,hfqv⟩:=row_slice hfq
   obtain⟨⟨code,⟨dl,dh⟩,⟨wl,wh⟩,pil,boi,src⟩,pv⟩:=p
   obtain⟨qs,qv⟩:=q
   simp only at hpq hfp hfq hle hfpv hfqv
   subst hpq hfpv hfqv
   have HFP:=Zh hfp;have HFQ:=Zh hfq;have HLEN:=Zh hle
   have HCP:=Zh hcp;have HCQ:=Zh hcq
   have HOp:=Zh (p:=(#[Zs code,Z O dl,Z O dh,Z O wl,Z O wh,Z O pil,Z O boi,Zl fpa fpn fpc]:Array Value).all (·.oneCell')=true) (by simp [Value.oneCell'])
   have HOq:=Zh (p:=(#[Zs code,Z O dl,Z O dh,Z O wl,Z O wh,Z O pil,Z O boi,Zl fqa fqn fqc]:Array Value).all (·.oneCell')=true) (by simp [Value.oneCell'])
   injection hvp with ea en ec
   injection hvq with ea' en' ec'
   subst ea ec ea' ec'
   have hkI:(k:Int)<(n:Int):=by omega
   clear hfp hfq hle hcp hcq hp hq en en'
   go_upto_region 6 with(fail)
   refine region_till [] (fun w'=>Below wr.heap.size wr w') 14 [false,false,false,false,false,false,false,false,false,false,false,false,false,false] hmix rfl rfl ?_
   have HBd:=Zh ((Below.refl wr.heap.size wr).drew)
   have HT:=HBd
   generalize wr.drew=Wd at HBd HT ⊢
   refine till_pure (i:=0) (v:=.pointer (some ⟨g2,0,none⟩)) rfl rfl (by kernel_rfl) (fun _ _ _ h=>h) (yields_of rfl (fun w' _=>by simp [go_sem])) (fun _=>HT.out) ?_
   simp only [Za,Zb,Zc]
   refine till_load (i:=1) (v:=Zl (some ⟨gp,0,none⟩) n c) rfl rfl (by kernel_rfl) (fun _ _ _ h=>h) (yields_of rfl (fun w' hw'=>by have hcx:w'.cell? ⟨g2,0,none⟩=some (Zl (some ⟨gp,0,none⟩) n c):=(hw'.cell (p:=⟨g2,0,none⟩) (Blk.lt HK.out)).trans (HK.out.at 0 _ rfl);simp [go_sem,hcx])) (fun _=>HT.out) ?_
   simp only [Za,Zb,Zc]
   refine till_pure (i:=2) (v:=Z O k) rfl rfl (by kernel_rfl) (fun _ _ _ h=>h) (yields_of rfl (fun w' _=>by simp [go_sem])) (fun _=>HT.out) ?_
   simp only [Za,Zb,Zc]
   refine till_pure (i:=3) (v:=.pointer (some ⟨gp,k*8,none⟩)) rfl rfl (by kernel_rfl) (fun _ _ _ h=>h) (yields_of rfl (fun w' _=>by simp [go_sem,hkI])) (fun _=>HT.out) ?_
   simp only [Za,Zb,Zc]
   refine till_load (i:=4) (v:=.agg #[Zs code,Z O dl,Z O dh,Z O wl,Z O wh,Z O pil,Z O boi,Zl fpa fpn fpc]) rfl rfl (by kernel_rfl) (fun _ _ _ h=>h) (yields_mid rfl 49 (.tmp 32) rfl (gp) (k*8) rfl [Zs code,Z O dl,Z O dh,Z O wl,Z O wh,Z O pil,Z O boi,Zl fpa fpn fpc] _ (fun w' hw'=>fun j v hv=>(hw'.cell (p:=⟨gp,k*8+j,none⟩) hgp).trans ((HCP.out j (by have:=(List.getElem?_eq_some_iff.1 hv).1;simpa using this)).trans hv)) Try.underlying49 rfl (by kernel_rfl)) (fun _=>HT.out) ?_
   simp only [Za,Zb,Zc]
   refine till_pure (i:=5) (v:=.pointer (some ⟨g3,0,none⟩)) rfl rfl (by kernel_rfl) (fun _ _ _ h=>h) (yields_of rfl (fun w' _=>by simp [go_sem])) (fun _=>HT.out) ?_
   simp only [Za,Zb,Zc]
   refine till_load (i:=6) (v:=Zl (some ⟨gq,0,none⟩) n c') rfl rfl (by kernel_rfl) (fun _ _ _ h=>h) (yields_of rfl (fun w' hw'=>by have hcx:w'.cell? ⟨g3,0,none⟩=some (Zl (some ⟨gq,0,none⟩) n c'):=(hw'.cell (p:=⟨g3,0,none⟩) (Blk.lt HL.out)).trans (HL.out.at 0 _ rfl);simp [go_sem,hcx])) (fun _=>HT.out) ?_
   simp only [Za,Zb,Zc]
   refine till_pure (i:=7) (v:=Z O k) rfl rfl (by kernel_rfl) (fun _ _ _ h=>h) (yields_of rfl (fun w' _=>by simp [go_sem])) (fun _=>HT.out) ?_
   simp only [Za,Zb,Zc]
   refine till_pure (i:=8) (v:=.pointer (some ⟨gq,k*8,none⟩)) rfl rfl (by kernel_rfl) (fun _ _ _ h=>h) (yields_of rfl (fun w' _=>by simp [go_sem,hkI])) (fun _=>HT.out) ?_
   simp only [Za,Zb,Zc]
   refine till_load (i:=9) (v:=.agg #[Zs code,Z O dl,Z O dh,Z O wl,Z O wh,Z O pil,Z O boi,Zl fqa fqn fqc]) rfl rfl (by kernel_rfl) (fun _ _ _ h=>h) (yields_mid rfl 49 (.tmp 37) rfl (gq) (k*8) rfl [Zs code,Z O dl,Z O dh,Z O wl,Z O wh,Z O pil,Z O boi,Zl fqa fqn fqc] _ (fun w' hw'=>fun j v hv=>(hw'.cell (p:=⟨gq,k*8+j,none⟩) hgq).trans ((HCQ.out j (by have:=(List.getElem?_eq_some_iff.1 hv).1;simpa using this)).trans hv)) Try.underlying49 rfl (by kernel_rfl)) (fun _=>HT.out) ?_
   simp only [Za,Zb,Zc]
   clear HT
   refine till_two (i:=10) (j:=11) (by kernel_rfl) rfl rfl ?_ ?_
   ·go_wp2_with fail
    refine⟨fun _=>(HBd.out.alloc HBd.out.size _),?_⟩
    try simp only [Za,Zb,Zc]
    refine till_only (j:=11) (by kernel_rfl) rfl ?_
    go_wp2_with fail
    have HT2:=Zh (p:=Below wr.heap.size wr ((Wd.alloc (.cells #[Zs ⟨#[]⟩,Z O 0,Z O 0,Z O 0,Z O 0,Z O 0,Z O 0,Zl none 0 0] 49)).alloc (.cells #[Zs ⟨#[]⟩,Z O 0,Z O 0,Z O 0,Z O 0,Z O 0,Z O 0,Zl none 0 0] 49))) ((HBd.out.alloc HBd.out.size _).alloc (HBd.out.alloc HBd.out.size _).size _)
    refine⟨fun _=>HT2.out,?_⟩
    try simp only [Za,Zb,Zc]
    have HgA:=Zh ((Blk.new Wd 49 #[Zs ⟨#[]⟩,Z O 0,Z O 0,Z O 0,Z O 0,Z O 0,Z O 0,Zl none 0 0]).alloc (.cells #[Zs ⟨#[]⟩,Z O 0,Z O 0,Z O 0,Z O 0,Z O 0,Z O 0,Zl none 0 0] 49))
    have HgB:=Zh (Blk.new (Wd.alloc (.cells #[Zs ⟨#[]⟩,Z O 0,Z O 0,Z O 0,Z O 0,Z O 0,Z O 0,Zl none 0 0] 49)) 49 #[Zs ⟨#[]⟩,Z O 0,Z O 0,Z O 0,Z O 0,Z O 0,Z O 0,Zl none 0 0])
    rw [World.size_alloc]at HgB
    have HGA:=Zh (p:=wr.heap.size≤Wd.heap.size∧Wd.heap.size≠Wd.heap.size+1) (⟨HBd.out.size,by omega⟩)
    generalize World.alloc _ _=W2 at HT2 HgA HgB ⊢
    obtain⟨gB,hgb⟩:∃ g,g=Wd.heap.size+1:=⟨_,rfl⟩
    rw [← hgb]at HgB HGA ⊢
    obtain⟨gA,hga⟩:∃ g,g=Wd.heap.size:=⟨_,rfl⟩
    rw [← hga]at HgA HGA ⊢
    have HNE:=Zh (p:=gB≠gA) (HGA.out.2.symm)
    have HGE:=Zh (p:=wr.heap.size≤gA∧wr.heap.size≤gB) (by have h1:=HGA.out.1;omega)
    clear hga hgb HGA
    refine till_only (j:=12) (by kernel_rfl) rfl ?_
    refine Zw rfl 49 (.tmp 6) (.tmp 33) rfl gA 0 _ rfl rfl (HgA.out.there (o:=0) (n:=8) (Zn rfl)) size_stack HOp.out ?_
    change wpList _ _ _ _ _ (W2.setCells gA 0 [Zs code,Z O dl,Z O dh,Z O wl,Z O wh,Z O pil,Z O boi,Zl fpa fpn fpc])
    have HN1:=Zh (HgA.out.stored (old:=[Zs ⟨#[]⟩,Z O 0,Z O 0,Z O 0,Z O 0,Z O 0,Z O 0,Zl none 0 0]) [Zs code,Z O dl,Z O dh,Z O wl,Z O wh,Z O pil,Z O boi,Zl fpa fpn fpc] rfl)
    have HN2:=Zh (HgB.out.apart (HNE.out) 0 [Zs code,Z O dl,Z O dh,Z O wl,Z O wh,Z O pil,Z O boi,Zl fpa fpn fpc])
    have HT3:=Zh (below_setCells HT2.out HGE.out.1 [Zs code,Z O dl,Z O dh,Z O wl,Z O wh,Z O pil,Z O boi,Zl fpa fpn fpc] 0)
    clear HgA HgB HT2
    change Till _ _ _ _∧wpAnyT _ _ _ _ _ _ _ _ _ _
    generalize World.setCells _ _ _ _=W3 at HN1 HN2 HT3 ⊢
    refine⟨fun _=>HT3.out,?_⟩
    try simp only [Za,Zb,Zc]
    have HgA:=HN1
    have HgB:=HN2
    clear HN1 HN2
    refine till_only (j:=13) (by kernel_rfl) rfl ?_
    refine Zw rfl 49 (.tmp 7) (.tmp 38) rfl gB 0 _ rfl rfl (HgB.out.there (o:=0) (n:=8) (Zn rfl)) size_stack HOq.out ?_
    change wpList _ _ _ _ _ (W3.setCells gB 0 [Zs code,Z O dl,Z O dh,Z O wl,Z O wh,Z O pil,Z O boi,Zl fqa fqn fqc])
    have HN1:=Zh (HgB.out.stored (old:=[Zs ⟨#[]⟩,Z O 0,Z O 0,Z O 0,Z O 0,Z O 0,Z O 0,Zl none 0 0]) [Zs code,Z O dl,Z O dh,Z O wl,Z O wh,Z O pil,Z O boi,Zl fqa fqn fqc] rfl)
    have HN2:=Zh (HgA.out.apart (HNE.out.symm) 0 [Zs code,Z O dl,Z O dh,Z O wl,Z O wh,Z O pil,Z O boi,Zl fqa fqn fqc])
    have HT4:=Zh (below_setCells HT3.out HGE.out.2 [Zs code,Z O dl,Z O dh,Z O wl,Z O wh,Z O pil,Z O boi,Zl fqa fqn fqc] 0)
    clear HgA HgB HT3
    change Till _ _ _ _∧wpAnyT _ _ _ _ _ _ _ _ _ _
    generalize World.setCells _ _ _ _=W4 at HN1 HN2 HT4 ⊢
    refine⟨fun _=>HT4.out,?_⟩
    try simp only [Za,Zb,Zc]
    have HgB:=HN1
    have HgA:=HN2
    clear HN1 HN2
    refine till_done (by kernel_rfl) ?_
    have p0:=HgA.out.at 0 (Zs code) rfl
    have p1:=HgA.out.at 1 (Z O dl) rfl
    have p2:=HgA.out.at 2 (Z O dh) rfl
    have p3:=HgA.out.at 3 (Z O wl) rfl
    have p4:=HgA.out.at 4 (Z O wh) rfl
    have p5:=HgA.out.at 5 (Z O pil) rfl
    have p6:=HgA.out.at 6 (Z O boi) rfl
    have p7:=HgA.out.at 7 (Zl fpa fpn fpc) rfl
    have q0:=HgB.out.at 0 (Zs code) rfl
    have q1:=HgB.out.at 1 (Z O dl) rfl
    have q2:=HgB.out.at 2 (Z O dh) rfl
    have q3:=HgB.out.at 3 (Z O wl) rfl
    have q4:=HgB.out.at 4 (Z O wh) rfl
    have q5:=HgB.out.at 5 (Z O pil) rfl
    have q6:=HgB.out.at 6 (Z O boi) rfl
    have q7:=HgB.out.at 7 (Zl fqa fqn fqc) rfl
    have HSA:=Zh (p:=W4.ownsRow 0 3 1 (Zl fpa fpn fpc) src.length (intCells src)) (row_same HFP.out (fun g hg=>HT4.out.block g (row_lt HFP.out hg)))
    have HSB:=Zh (p:=W4.ownsRow 0 3 1 (Zl fqa fqn fqc) src.length (intCells src)) (row_same HFQ.out (fun g hg=>HT4.out.block g (row_lt HFQ.out hg)))
    have HK4:=Zh (HK.out.below HT4.out)
    have HL4:=Zh (HL.out.below HT4.out)
    have HW4:=Zh (HB.out.trans (HT4.out.mono HB.out.size))
    go_wp2_with (go_at_call 46;refine(equal_calls HSA.out HSB.out HLEN.out).mono ?_;rintro e w8 ⟨rfl,hb8⟩;have HK8:=Zh (HK4.out.below hb8);have HL8:=Zh (HL4.out.below hb8);have HW8:=Zh (HW4.out.trans (hb8.mono HW4.out.size));clear hb8)
    go_roundw
    case rel=>exact⟨k+1,by omega,by go_num,HK8,HL8,HW8⟩
    case measure=>simp [intOf];omega
   ·go_wp2_with fail
    refine⟨fun _=>(HBd.out.alloc HBd.out.size _),?_⟩
    try simp only [Za,Zb,Zc]
    refine till_only (j:=10) (by kernel_rfl) rfl ?_
    go_wp2_with fail
    have HT2:=Zh (p:=Below wr.heap.size wr ((Wd.alloc (.cells #[Zs ⟨#[]⟩,Z O 0,Z O 0,Z O 0,Z O 0,Z O 0,Z O 0,Zl none 0 0] 49)).alloc (.cells #[Zs ⟨#[]⟩,Z O 0,Z O 0,Z O 0,Z O 0,Z O 0,Z O 0,Zl none 0 0] 49))) ((HBd.out.alloc HBd.out.size _).alloc (HBd.out.alloc HBd.out.size _).size _)
    refine⟨fun _=>HT2.out,?_⟩
    try simp only [Za,Zb,Zc]
    have HgB:=Zh ((Blk.new Wd 49 #[Zs ⟨#[]⟩,Z O 0,Z O 0,Z O 0,Z O 0,Z O 0,Z O 0,Zl none 0 0]).alloc (.cells #[Zs ⟨#[]⟩,Z O 0,Z O 0,Z O 0,Z O 0,Z O 0,Z O 0,Zl none 0 0] 49))
    have HgA:=Zh (Blk.new (Wd.alloc (.cells #[Zs ⟨#[]⟩,Z O 0,Z O 0,Z O 0,Z O 0,Z O 0,Z O 0,Zl none 0 0] 49)) 49 #[Zs ⟨#[]⟩,Z O 0,Z O 0,Z O 0,Z O 0,Z O 0,Z O 0,Zl none 0 0])
    rw [World.size_alloc]at HgA
    have HGA:=Zh (p:=wr.heap.size≤Wd.heap.size∧Wd.heap.size≠Wd.heap.size+1) (⟨HBd.out.size,by omega⟩)
    generalize World.alloc _ _=W2 at HT2 HgA HgB ⊢
    obtain⟨gA,hgb⟩:∃ g,g=Wd.heap.size+1:=⟨_,rfl⟩
    rw [← hgb]at HgA HGA ⊢
    obtain⟨gB,hga⟩:∃ g,g=Wd.heap.size:=⟨_,rfl⟩
    rw [← hga]at HgB HGA ⊢
    have HNE:=Zh (p:=gB≠gA) (HGA.out.2)
    have HGE:=Zh (p:=wr.heap.size≤gA∧wr.heap.size≤gB) (by have h1:=HGA.out.1;omega)
    clear hga hgb HGA
    refine till_only (j:=12) (by kernel_rfl) rfl ?_
    refine Zw rfl 49 (.tmp 6) (.tmp 33) rfl gA 0 _ rfl rfl (HgA.out.there (o:=0) (n:=8) (Zn rfl)) size_stack HOp.out ?_
    change wpList _ _ _ _ _ (W2.setCells gA 0 [Zs code,Z O dl,Z O dh,Z O wl,Z O wh,Z O pil,Z O boi,Zl fpa fpn fpc])
    have HN1:=Zh (HgA.out.stored (old:=[Zs ⟨#[]⟩,Z O 0,Z O 0,Z O 0,Z O 0,Z O 0,Z O 0,Zl none 0 0]) [Zs code,Z O dl,Z O dh,Z O wl,Z O wh,Z O pil,Z O boi,Zl fpa fpn fpc] rfl)
    have HN2:=Zh (HgB.out.apart (HNE.out) 0 [Zs code,Z O dl,Z O dh,Z O wl,Z O wh,Z O pil,Z O boi,Zl fpa fpn fpc])
    have HT3:=Zh (below_setCells HT2.out HGE.out.1 [Zs code,Z O dl,Z O dh,Z O wl,Z O wh,Z O pil,Z O boi,Zl fpa fpn fpc] 0)
    clear HgA HgB HT2
    change Till _ _ _ _∧wpAnyT _ _ _ _ _ _ _ _ _ _
    generalize World.setCells _ _ _ _=W3 at HN1 HN2 HT3 ⊢
    refine⟨fun _=>HT3.out,?_⟩
    try simp only [Za,Zb,Zc]
    have HgA:=HN1
    have HgB:=HN2
    clear HN1 HN2
    refine till_only (j:=13) (by kernel_rfl) rfl ?_
    refine Zw rfl 49 (.tmp 7) (.tmp 38) rfl gB 0 _ rfl rfl (HgB.out.there (o:=0) (n:=8) (Zn rfl)) size_stack HOq.out ?_
    change wpList _ _ _ _ _ (W3.setCells gB 0 [Zs code,Z O dl,Z O dh,Z O wl,Z O wh,Z O pil,Z O boi,Zl fqa fqn fqc])
    have HN1:=Zh (HgB.out.stored (old:=[Zs ⟨#[]⟩,Z O 0,Z O 0,Z O 0,Z O 0,Z O 0,Z O 0,Zl none 0 0]) [Zs code,Z O dl,Z O dh,Z O wl,Z O wh,Z O pil,Z O boi,Zl fqa fqn fqc] rfl)
    have HN2:=Zh (HgA.out.apart (HNE.out.symm) 0 [Zs code,Z O dl,Z O dh,Z O wl,Z O wh,Z O pil,Z O boi,Zl fqa fqn fqc])
    have HT4:=Zh (below_setCells HT3.out HGE.out.2 [Zs code,Z O dl,Z O dh,Z O wl,Z O wh,Z O pil,Z O boi,Zl fqa fqn fqc] 0)
    clear HgA HgB HT3
    change Till _ _ _ _∧wpAnyT _ _ _ _ _ _ _ _ _ _
    generalize World.setCells _ _ _ _=W4 at HN1 HN2 HT4 ⊢
    refine⟨fun _=>HT4.out,?_⟩
    try simp only [Za,Zb,Zc]
    have HgB:=HN1
    have HgA:=HN2
    clear HN1 HN2
    refine till_done (by kernel_rfl) ?_
    have p0:=HgA.out.at 0 (Zs code) rfl
    have p1:=HgA.out.at 1 (Z O dl) rfl
    have p2:=HgA.out.at 2 (Z O dh) rfl
    have p3:=HgA.out.at 3 (Z O wl) rfl
    have p4:=HgA.out.at 4 (Z O wh) rfl
    have p5:=HgA.out.at 5 (Z O pil) rfl
    have p6:=HgA.out.at 6 (Z O boi) rfl
    have p7:=HgA.out.at 7 (Zl fpa fpn fpc) rfl
    have q0:=HgB.out.at 0 (Zs code) rfl
    have q1:=HgB.out.at 1 (Z O dl) rfl
    have q2:=HgB.out.at 2 (Z O dh) rfl
    have q3:=HgB.out.at 3 (Z O wl) rfl
    have q4:=HgB.out.at 4 (Z O wh) rfl
    have q5:=HgB.out.at 5 (Z O pil) rfl
    have q6:=HgB.out.at 6 (Z O boi) rfl
    have q7:=HgB.out.at 7 (Zl fqa fqn fqc) rfl
    have HSA:=Zh (p:=W4.ownsRow 0 3 1 (Zl fpa fpn fpc) src.length (intCells src)) (row_same HFP.out (fun g hg=>HT4.out.block g (row_lt HFP.out hg)))
    have HSB:=Zh (p:=W4.ownsRow 0 3 1 (Zl fqa fqn fqc) src.length (intCells src)) (row_same HFQ.out (fun g hg=>HT4.out.block g (row_lt HFQ.out hg)))
    have HK4:=Zh (HK.out.below HT4.out)
    have HL4:=Zh (HL.out.below HT4.out)
    have HW4:=Zh (HB.out.trans (HT4.out.mono HB.out.size))
    go_wp2_with (go_at_call 46;refine(equal_calls HSA.out HSB.out HLEN.out).mono ?_;rintro e w8 ⟨rfl,hb8⟩;have HK8:=Zh (HK4.out.below hb8);have HL8:=Zh (HL4.out.below hb8);have HW8:=Zh (HW4.out.trans (hb8.mono HW4.out.size));clear hb8)
    go_roundw
    case rel=>exact⟨k+1,by omega,by go_num,HK8,HL8,HW8⟩
    case measure=>simp [intOf];omega
  ·have hkn:k=n:=by omega
   subst hkn
   go_wp2
   go_ret
   exact⟨rfl,HB.out⟩
theorem same_calls {w:World}{rows rows':List SRow}{tv tv':Value}(h:Stands w rows tv)(h':Stands w rows' tv')(he:rows.map (·.1)=rows'.map (·.1))(c:Yd.Acc) :
  Calls Try.prog 20 #[.agg (tv :: accCells c).toArray,.agg (tv' :: accCells c).toArray] w fun e w'=>e=.returned (.bool true)∧Below w.heap.size w w':=by
 have hl:rows.length=rows'.length:=by have:=congrArg List.length he;simpa using this
 obtain⟨a,c1,rfl⟩:=stands_slice h
 obtain⟨a',c2,rfl⟩:=stands_slice h'
 obtain⟨⟨_,_⟩,⟨_,_⟩,⟨_,_⟩,⟨_,_⟩,⟨_,_⟩,⟨_,_⟩⟩:=c
 rw [hl]at h ⊢
 exact same_rows h h' he
end Go.Proofs.Ytgekekhbhkgekaa
