/- YardWaters: the law's walk. -/
import Derived.Test.YtgekekhbhkgekaaRYWaterAny
import Derived.Test.YtgekekhbhkgekaaRYLocs
namespace Go.Proofs.Ytgekekhbhkgekaa
open Go Go.RowKit Go.Shelf Yd
open Go.Value renaming int→Z,string→Zs,slice→Zl
open Go.IntKind renaming i64→O
open Go.Lib renaming hid→Zh
open _root_.Nat renaming le_of_ble_eq_true→Zn
open Go renaming wpList_store_mid→Zw
set_option maxRecDepth 100000
set_option maxHeartbeats 16000000
set_option linter.unusedSimpArgs false
theorem waters_great (bef aft:Int)(v:Value)(ds:List (Deed Code))(n:Int)(code:Code)(most:Int)(w:World)(h:Held w.heap.size w 8 deedCells v ds)(hg:greatB ds=true∨100<code.size) :
  Calls Try.prog 11 #[.agg #[Z O bef,Z O aft,v],Z O n,Zs code,Z O most] w (LawDone w):=by
 have HGR:=Zh (fun(W:World) (hW:Below w.heap.size w W)=>great_calls bef aft v ds W ((h.below hW).mono hW.size))
 obtain⟨a,c,rfl,_,_⟩:=h.slice
 obtain⟨m,hm⟩:∃ m,m=ds.length:=⟨_,rfl⟩
 rw [← hm]at HGR ⊢
 have HL0:=Zh (p:=Locs w (w.alloc (.cells #[Z O bef,Z O aft,Zl a m c] 24)) [(w.heap.size,24,[Z O bef,Z O aft,Zl a m c])] []) ((Locs.start w).alloc 24 [Z O bef,Z O aft,Zl a m c] rfl)
 clear h hm
 cases hgb:greatB ds with
 | true =>
   have HG:=Zh hgb
   clear hgb hg
   go_enter Try.func11,Try.ntmps11
   go_wp2_with (first|(go_at_call 13;refine(HGR.out _ HL0.out.low).mono ?_;rintro e w1 ⟨rfl,hb1⟩;rw [HG.out];have HL1:=Zh (HL0.out.below hb1);clear hb1)|(go_at_call 15;refine(stands_calls _).mono ?_;rintro e w2 ⟨rfl,hb2⟩;have HL2:=Zh (HL1.out.below hb2);clear hb2))
   go_ret
   exact lawDone HL2.out.low
 | false =>
   have HG:=Zh hgb
   have hcs:100<code.size:=hg.resolve_left (by rw [hgb];simp)
   have d1:decide ((100:Int)<(code.size:Int))=true:=by simp;omega
   clear hgb hg hcs
   go_enter Try.func11,Try.ntmps11
   go_wp2_with (first|(go_at_call 13;refine(HGR.out _ HL0.out.low).mono ?_;rintro e w1 ⟨rfl,hb1⟩;rw [HG.out];have HL1:=Zh (HL0.out.below hb1);clear hb1)|(go_at_call 15;refine(stands_calls _).mono ?_;rintro e w2 ⟨rfl,hb2⟩;have HL2:=Zh (HL1.out.below hb2);clear hb2))
   go_ret
   exact lawDone HL2.out.low
theorem waters_small (bef aft:Int)(v:Value)(ds:List (Deed Code))(n:Int)(code:Code)(most:Int)(w:World)(h:Held w.heap.size w 8 deedCells v ds)(hsz:∀ d ∈ ds,d.stack.size≤maxLen∧d.other.size≤maxLen)(hg:greatB ds=false)(hcs:¬ 100<code.size) :
  Calls Try.prog 11 #[.agg #[Z O bef,Z O aft,v],Z O n,Zs code,Z O most] w (LawDone w):=by
 have HGR:=Zh (fun(W:World) (hW:Below w.heap.size w W)=>great_calls bef aft v ds W ((h.below hW).mono hW.size))
 obtain⟨⟨ml,mh,me⟩,hmr⟩:∃ x,x=moistRes (followAny bef aft ds n) code:=⟨_,rfl⟩
 obtain⟨⟨dv,de⟩,hdr⟩:∃ x,x=dryRes (followAny bef aft ds n) code most:=⟨_,rfl⟩
 have HMP:=Zh (show ∀ W,Below w.heap.size w W→Calls Try.prog 30 #[.agg #[Z O bef,Z O aft,v],Z O n,Zs code] W fun e w'=>e=.returned (.tuple #[.agg #[Z O ml,Z O mh],Z O me])∧Below W.heap.size W w' from fun W hW=>by
  have:=moist_any bef aft v ds n code W ((h.below hW).mono hW.size) hsz hg
  rw [← hmr]at this
  exact this)
 have HMR:=Zh (show ∀ W,Below w.heap.size w W→Calls Try.prog 31 #[.agg #[Z O bef,Z O aft,v],Z O n,Zs code] W fun e w'=>e=.returned (.tuple #[.agg #[Z O ml,Z O mh],Z O me])∧Below W.heap.size W w' from fun W hW=>by
  have:=rmoist_any bef aft v ds n code W ((h.below hW).mono hW.size) hsz hg
  rw [← hmr]at this
  exact this)
 have HDP:=Zh (show ∀ W,Below w.heap.size w W→Calls Try.prog 32 #[.agg #[Z O bef,Z O aft,v],Z O n,Zs code,Z O most] W fun e w'=>e=.returned (.tuple #[Z O dv,Z O de])∧Below W.heap.size W w' from fun W hW=>by
  have:=dry_any bef aft v ds n code most W ((h.below hW).mono hW.size) hsz hg
  rw [← hdr]at this
  exact this)
 have HDR:=Zh (show ∀ W,Below w.heap.size w W→Calls Try.prog 33 #[.agg #[Z O bef,Z O aft,v],Z O n,Zs code,Z O most] W fun e w'=>e=.returned (.tuple #[Z O dv,Z O de])∧Below W.heap.size W w' from fun W hW=>by
  have:=rdry_any bef aft v ds n code most W ((h.below hW).mono hW.size) hsz hg
  rw [← hdr]at this
  exact this)
 obtain⟨a,c,rfl,_,_⟩:=h.slice
 obtain⟨m,hm⟩:∃ m,m=ds.length:=⟨_,rfl⟩
 rw [← hm]at HGR HMP HMR HDP HDR ⊢
 have HG:=Zh hg
 have d1:decide ((100:Int)<(code.size:Int))=false:=by simp;omega
 clear h hsz hm hg hmr hdr hcs
 have HL0:=Zh (p:=Locs w (w.alloc (.cells #[Z O bef,Z O aft,Zl a m c] 24)) [(w.heap.size,24,[Z O bef,Z O aft,Zl a m c])] []) ((Locs.start w).alloc 24 [Z O bef,Z O aft,Zl a m c] rfl)
 go_enter Try.func11,Try.ntmps11
 go_upto_region 3 with(go_at_call 13;refine(HGR.out _ HL0.out.low).mono ?_;rintro e w1 ⟨rfl,hb1⟩;rw [HG.out];have HL1:=Zh (HL0.out.below hb1);clear hb1)
 clear HL0 HGR d1
 generalize w.heap.size=gy at HL1 ⊢
 have y0:=HL1.out.at 0 0 (v:=Z O bef) rfl rfl
 have y1:=HL1.out.at 0 1 (v:=Z O aft) rfl rfl
 have y2:=HL1.out.at 0 2 (v:=Zl a m c) rfl rfl
 go_upto_region 4 with(first
  | (go_at_call 30;refine(HMP.out _ HL1.out.low).mono ?_;rintro e w2 ⟨rfl,hb⟩;have HLx:=Zh (HL1.out.below hb);clear hb)
  | ((with_reducible refine at_store 32 (.tmp 9) (.tmp 28) ?_);go_must (refine Zw rfl 32 (.tmp 9) (.tmp 28) rfl w2.heap.size 0 #[Z O ml,Z O mh] rfl rfl ((Blk.new w2 32 #[Z O 0,Z O 0]).there (o:=0) (n:=2) (Zn rfl)) size_bounds (by simp [Value.oneCell']) ?_)))
 clear y0 y1 y2 HL1 HMP
 have HL2:=HLx
 clear HLx
 have HL3:=Zh (p:=Locs w ((w2.alloc (.cells #[Z O 0,Z O 0] 32)).setCells w2.heap.size 0 [Z O ml,Z O mh]) [(gy,24,[Z O bef,Z O aft,Zl a m c]),(w2.heap.size,32,[Z O ml,Z O mh])] []) ((HL2.out.alloc 32 [Z O 0,Z O 0] rfl).setLoc 1 [] [Z O 0,Z O 0] [] [Z O ml,Z O mh] rfl rfl)
 clear HL2
 generalize((w2.alloc (.cells #[Z O 0,Z O 0] 32)).setCells w2.heap.size 0 [Z O ml,Z O mh])=v1 at HL3 ⊢
 generalize w2.heap.size=g1 at HL3 ⊢
 try simp only [Act.put]
 have y0:=HL3.out.at 0 0 (v:=Z O bef) rfl rfl
 have y1:=HL3.out.at 0 1 (v:=Z O aft) rfl rfl
 have y2:=HL3.out.at 0 2 (v:=Zl a m c) rfl rfl
 go_upto_region 5 with(first
  | (go_at_call 31;refine(HMR.out _ HL3.out.low).mono ?_;rintro e w3 ⟨rfl,hb⟩;have HLx:=Zh (HL3.out.below hb);clear hb)
  | ((with_reducible refine at_store 32 (.tmp 11) (.tmp 35) ?_);go_must (refine Zw rfl 32 (.tmp 11) (.tmp 35) rfl w3.heap.size 0 #[Z O ml,Z O mh] rfl rfl ((Blk.new w3 32 #[Z O 0,Z O 0]).there (o:=0) (n:=2) (Zn rfl)) size_bounds (by simp [Value.oneCell']) ?_)))
 clear y0 y1 y2 HL3 HMR
 have HL4:=HLx
 clear HLx
 have HL5:=Zh (p:=Locs w ((w3.alloc (.cells #[Z O 0,Z O 0] 32)).setCells w3.heap.size 0 [Z O ml,Z O mh]) [(gy,24,[Z O bef,Z O aft,Zl a m c]),(g1,32,[Z O ml,Z O mh]),(w3.heap.size,32,[Z O ml,Z O mh])] []) ((HL4.out.alloc 32 [Z O 0,Z O 0] rfl).setLoc 2 [] [Z O 0,Z O 0] [] [Z O ml,Z O mh] rfl rfl)
 clear HL4
 generalize((w3.alloc (.cells #[Z O 0,Z O 0] 32)).setCells w3.heap.size 0 [Z O ml,Z O mh])=v2 at HL5 ⊢
 generalize w3.heap.size=g2 at HL5 ⊢
 try simp only [Act.put]
 have y0:=HL5.out.at 0 0 (v:=Z O bef) rfl rfl
 have y1:=HL5.out.at 0 1 (v:=Z O aft) rfl rfl
 have y2:=HL5.out.at 0 2 (v:=Zl a m c) rfl rfl
 have p0:=HL5.out.at 1 0 (v:=Z O ml) rfl rfl
 have p1:=HL5.out.at 1 1 (v:=Z O mh) rfl rfl
 have q0:=HL5.out.at 2 0 (v:=Z O ml) rfl rfl
 have q1:=HL5.out.at 2 1 (v:=Z O mh) rfl rfl
 go_upto_region 7 with fail
 clear y0 y1 y2 p0 p1 q0 q1
 have y0:=HL5.out.at 0 0 (v:=Z O bef) rfl rfl
 have y1:=HL5.out.at 0 1 (v:=Z O aft) rfl rfl
 have y2:=HL5.out.at 0 2 (v:=Zl a m c) rfl rfl
 go_upto_region 8 with(go_at_call 32;refine(HDP.out _ HL5.out.low).mono ?_;rintro e w4 ⟨rfl,hb⟩;have HLy:=Zh (HL5.out.below hb);clear hb)
 clear y0 y1 y2 HL5 HDP
 have HL6:=HLy
 clear HLy
 have y0:=HL6.out.at 0 0 (v:=Z O bef) rfl rfl
 have y1:=HL6.out.at 0 1 (v:=Z O aft) rfl rfl
 have y2:=HL6.out.at 0 2 (v:=Zl a m c) rfl rfl
 go_wp2_with (first
  | (go_at_call 33;refine(HDR.out _ HL6.out.low).mono ?_;rintro e w5 ⟨rfl,hb⟩;have HLz:=Zh (HL6.out.below hb);clear hb)
  | (go_at_call 15;refine(stands_calls _).mono ?_;rintro e w6 ⟨rfl,hb⟩;have HLe:=Zh (HLz.out.below hb);clear hb))
 go_ret
 exact lawDone HLe.out.low
theorem waters_law (bef aft:Int)(v:Value)(ds:List (Deed Code))(hsz:∀ d ∈ ds,d.stack.size≤maxLen∧d.other.size≤maxLen)(n:Int)(code:Code)(most:Int)(w:World)(h:Held w.heap.size w 8 deedCells v ds) :
  Calls Try.prog 11 #[.agg #[Z O bef,Z O aft,v],Z O n,Zs code,Z O most] w (LawDone w):=by
 by_cases hg:greatB ds=true∨100<code.size
 ·exact waters_great bef aft v ds n code most w h hg
 ·have h1:¬ greatB ds=true:=fun e=>hg (.inl e)
  exact waters_small bef aft v ds n code most w h hsz (by simpa using h1) (fun e=>hg (.inr e))
end Go.Proofs.Ytgekekhbhkgekaa
