/- YardFollows: the law's walk. A yard that comes in: its cells, and what of it lies in memory. A slice of choices comes in. -/
import Derived.Test.YtgekekhbhkgekaaQYFollowAny
import Derived.Test.YtgekekhbhkgekaaQYSameStanding
import Derived.Test.YtgekekhbhkgekaaQYLocs
import Derived.Test.YtgekekhbhkgekaaQYHeld
import Derived.Test.YtgekekhbhkgekaaRows
import Derived.OpenShut
import Derived.Deep.Slices
import Derived.SizedLaws
namespace Go.Proofs.Ytgekekhbhkgekaa
open Go Go.RowKit Go.Shelf Yd
open _root_.Go.Value renaming int → Z, slice → Zl
open _root_.Go.IntKind renaming i64 → O
open _root_.Go.Lib renaming hid → Zh
open _root_.Nat renaming le_of_ble_eq_true → Zn
open _root_.Go renaming wpList_store_mid → Zw
set_option maxRecDepth 100000
set_option maxHeartbeats 16000000
set_option linter.unusedSimpArgs false
theorem follows_great (bef aft:Int)(v:Value)(ds:List (Deed Code))(n:Int)(w:World)(h:Held w.heap.size w 8 deedCells v ds)(hg:greatB ds=true) :
  Calls Try.prog 10 #[.agg #[Z O bef,Z O aft,v],Z O n] w (LawDone w):=by
 have HGR:=Zh (fun(W:World) (hW:Below w.heap.size w W)=>great_calls bef aft v ds W ((h.below hW).mono hW.size))
 obtain⟨a,c,rfl,_,_⟩:=h.slice
 obtain⟨m,hm⟩:∃ m,m=ds.length:=⟨_,rfl⟩
 rw [← hm]at HGR ⊢
 have HG:=Zh hg
 have HW0:=Zh ((Below.refl w.heap.size w).alloc (Nat.le_refl _) (.cells #[Z O bef,Z O aft,Zl a m c] 24))
 clear h hm hg
 go_enter Try.func10,Try.ntmps10
 go_wp2_with (first
  | (go_at_call 13;refine(HGR.out _ HW0.out).mono ?_;rintro e w1 ⟨rfl,hb1⟩;rw [HG.out];have HW1:=Zh (HW0.out.trans (hb1.mono HW0.out.size));clear hb1)
  | (go_at_call 15;refine(stands_calls _).mono ?_;rintro e w2 ⟨rfl,hb2⟩;have HW2:=Zh (HW1.out.trans (hb2.mono HW1.out.size));clear hb2))
 go_ret
 exact lawDone HW2.out
theorem follows_small (bef aft:Int)(v:Value)(ds:List (Deed Code))(n:Int)(w:World)(h:Held w.heap.size w 8 deedCells v ds)(hsz:∀ d ∈ ds,d.stack.size≤maxLen∧d.other.size≤maxLen)(hg:greatB ds=false) :
  Calls Try.prog 10 #[.agg #[Z O bef,Z O aft,v],Z O n] w (LawDone w):=by
 have HGR:=Zh (fun(W:World) (hW:Below w.heap.size w W)=>great_calls bef aft v ds W ((h.below hW).mono hW.size))
 have HCP:=Zh (fun(W:World) (hW:Below w.heap.size w W)=>checkYard_any bef aft v ds W ((h.below hW).mono hW.size) (sizes_max hsz))
 have HCR:=Zh (fun(W:World) (hW:Below w.heap.size w W)=>refYard_calls bef aft v ds W ((h.below hW).mono hW.size))
 have HFP:=Zh (fun(W:World) (hW:Below w.heap.size w W)=>follow_any bef aft v ds n W ((h.below hW).mono hW.size) hsz hg)
 have HFR:=Zh (fun(W:World) (hW:Below w.heap.size w W)=>rfollow_any bef aft v ds n W ((h.below hW).mono hW.size) hsz hg)
 obtain⟨a,c,rfl,_,_⟩:=h.slice
 obtain⟨m,hm⟩:∃ m,m=ds.length:=⟨_,rfl⟩
 rw [← hm]at HGR HCP HCR HFP HFR ⊢
 obtain⟨ey,hey⟩:∃ ey,ey=errYard bef aft ds:=⟨_,rfl⟩
 rw [← hey]at HCP HCR
 obtain⟨R,hR⟩:∃ R,R=followAny bef aft ds n:=⟨_,rfl⟩
 rw [← hR]at HFP HFR
 have HG:=Zh hg
 clear h hsz hm hg hey hR
 have HL0:=Zh (p:=Locs w (w.alloc (.cells #[Z O bef,Z O aft,Zl a m c] 24)) [(w.heap.size,24,[Z O bef,Z O aft,Zl a m c])] []) ((Locs.start w).alloc 24 [Z O bef,Z O aft,Zl a m c] rfl)
 go_enter Try.func10,Try.ntmps10
 go_upto_region 3 with(go_at_call 13;refine(HGR.out _ HL0.out.low).mono ?_;rintro e w1 ⟨rfl,hb1⟩;rw [HG.out];have HL1:=Zh (HL0.out.below hb1);clear hb1)
 clear HL0 HGR
 generalize w.heap.size=gy at HL1 ⊢
 have y0:=(show w1.cell? ⟨gy,0,none⟩=some (Z O bef)from HL1.out.at 0 0 (v:=Z O bef) rfl rfl)
 have y1:=(show w1.cell? ⟨gy,1,none⟩=some (Z O aft)from HL1.out.at 0 1 (v:=Z O aft) rfl rfl)
 have y2:=(show w1.cell? ⟨gy,2,none⟩=some (Zl a m c)from HL1.out.at 0 2 (v:=Zl a m c) rfl rfl)
 go_upto_region 4 with(first
  | (go_at_call 16;refine(HFP.out _ HL1.out.low).mono ?_;rintro e w2 ⟨rows1,tv1,acc1,k,f,er,hr,_,rfl,hb,hst⟩;obtain⟨t1a,t1n,t1c,rfl⟩:=row_slice hst.things;have HR:=Zh hr;clear hr;obtain⟨⟨aA,aB⟩,⟨aC,aD⟩,⟨aE,aF⟩,⟨aG,aH⟩,⟨aI,aJ⟩,⟨aK,aL⟩⟩:=acc1;have HL2:=Zh (HL1.out.stand hb hst rfl);have HO:=Zh (p:=(#[Zl t1a t1n t1c,Z O aA,Z O aB,Z O aC,Z O aD,Z O aE,Z O aF,Z O aG,Z O aH,Z O aI,Z O aJ,Z O aK,Z O aL]:Array Value).all (·.oneCell')=true) (by simp [Value.oneCell']);clear hb hst)
  | ((with_reducible refine at_store 36 (.tmp 5) (.tmp 20) ?_);go_must (refine Zw rfl 36 (.tmp 5) (.tmp 20) rfl w2.heap.size 0 #[Zl t1a t1n t1c,Z O aA,Z O aB,Z O aC,Z O aD,Z O aE,Z O aF,Z O aG,Z O aH,Z O aI,Z O aJ,Z O aK,Z O aL] rfl rfl ((Blk.new w2 36 #[Zl none 0 0,Z O 0,Z O 0,Z O 0,Z O 0,Z O 0,Z O 0,Z O 0,Z O 0,Z O 0,Z O 0,Z O 0,Z O 0]).there (o:=0) (n:=13) (Zn rfl)) size_standing (HO.out) ?_)))
 clear y0 y1 y2 HL1 HFP
 have HL3:=Zh (p:=Locs w ((w2.alloc (.cells #[Zl none 0 0,Z O 0,Z O 0,Z O 0,Z O 0,Z O 0,Z O 0,Z O 0,Z O 0,Z O 0,Z O 0,Z O 0,Z O 0] 36)).setCells w2.heap.size 0 [Zl t1a t1n t1c,Z O aA,Z O aB,Z O aC,Z O aD,Z O aE,Z O aF,Z O aG,Z O aH,Z O aI,Z O aJ,Z O aK,Z O aL]) [(gy,24,[Z O bef,Z O aft,Zl a m c]),(w2.heap.size,36,[Zl t1a t1n t1c,Z O aA,Z O aB,Z O aC,Z O aD,Z O aE,Z O aF,Z O aG,Z O aH,Z O aI,Z O aJ,Z O aK,Z O aL])] [(rows1,Zl t1a t1n t1c)]) ((HL2.out.alloc 36 [Zl none 0 0,Z O 0,Z O 0,Z O 0,Z O 0,Z O 0,Z O 0,Z O 0,Z O 0,Z O 0,Z O 0,Z O 0,Z O 0] rfl).setLoc 1 [] [Zl none 0 0,Z O 0,Z O 0,Z O 0,Z O 0,Z O 0,Z O 0,Z O 0,Z O 0,Z O 0,Z O 0,Z O 0,Z O 0] [] [Zl t1a t1n t1c,Z O aA,Z O aB,Z O aC,Z O aD,Z O aE,Z O aF,Z O aG,Z O aH,Z O aI,Z O aJ,Z O aK,Z O aL] rfl rfl)
 clear HL2
 generalize((w2.alloc (.cells #[Zl none 0 0,Z O 0,Z O 0,Z O 0,Z O 0,Z O 0,Z O 0,Z O 0,Z O 0,Z O 0,Z O 0,Z O 0,Z O 0] 36)).setCells w2.heap.size 0 [Zl t1a t1n t1c,Z O aA,Z O aB,Z O aC,Z O aD,Z O aE,Z O aF,Z O aG,Z O aH,Z O aI,Z O aJ,Z O aK,Z O aL])=v1 at HL3 ⊢
 generalize w2.heap.size=g1 at HL3 ⊢
 try simp only [Act.put]
 have y0:=(show v1.cell? ⟨gy,0,none⟩=some (Z O bef)from HL3.out.at 0 0 (v:=Z O bef) rfl rfl)
 have y1:=(show v1.cell? ⟨gy,1,none⟩=some (Z O aft)from HL3.out.at 0 1 (v:=Z O aft) rfl rfl)
 have y2:=(show v1.cell? ⟨gy,2,none⟩=some (Zl a m c)from HL3.out.at 0 2 (v:=Zl a m c) rfl rfl)
 have HFR2:=Zh (show ∀ W,Below w.heap.size w W→Calls Try.prog 28 #[.agg #[Z O bef,Z O aft,Zl a m c],Z O n] W fun e w' => ∃(rows2:List SRow) (tv2:Value),rows1.map (·.1)=rows2.map (·.1)∧e=.returned (.tuple #[.agg (tv2 :: accCells (⟨⟨aA,aB⟩,⟨aC,aD⟩,⟨aE,aF⟩,⟨aG,aH⟩,⟨aI,aJ⟩,⟨aK,aL⟩⟩:Yd.Acc)).toArray,Z O k,Z O f,Z O er])∧Below W.heap.size W w'∧Stands w' rows2 tv2 from fun W hW=>by
  refine(HFR.out W hW).mono ?_
  rintro e w' ⟨rows2,tv2,acc2,k2,f2,er2,hr,_,rfl,hb,hst⟩
  have hr1:=HR.out.symm.trans hr
  injection hr1 with e1 e2
  injection e2 with e2 e3
  injection e3 with e3 e4
  injection e1 with e5 e6
  subst e2 e3 e4 e6
  exact⟨rows2,tv2,e5,rfl,hb,hst⟩)
 clear HFR HR
 go_upto_region 5 with(first
  | (go_at_call 28;refine(HFR2.out _ HL3.out.low).mono ?_;rintro e w5 ⟨rows2,tv2,hmp,rfl,hb,hst⟩;obtain⟨t2a,t2n,t2c,rfl⟩:=row_slice hst.things;have HMP:=Zh hmp;have HL5:=Zh (HL3.out.stand hb hst rfl);have HO:=Zh (p:=(#[Zl t2a t2n t2c,Z O aA,Z O aB,Z O aC,Z O aD,Z O aE,Z O aF,Z O aG,Z O aH,Z O aI,Z O aJ,Z O aK,Z O aL]:Array Value).all (·.oneCell')=true) (by simp [Value.oneCell']);clear hb hst hmp)
  | ((with_reducible refine at_store 36 (.tmp 9) (.tmp 28) ?_);go_must (refine Zw rfl 36 (.tmp 9) (.tmp 28) rfl w5.heap.size 0 #[Zl t2a t2n t2c,Z O aA,Z O aB,Z O aC,Z O aD,Z O aE,Z O aF,Z O aG,Z O aH,Z O aI,Z O aJ,Z O aK,Z O aL] rfl rfl ((Blk.new w5 36 #[Zl none 0 0,Z O 0,Z O 0,Z O 0,Z O 0,Z O 0,Z O 0,Z O 0,Z O 0,Z O 0,Z O 0,Z O 0,Z O 0]).there (o:=0) (n:=13) (Zn rfl)) size_standing (HO.out) ?_)))
 clear y0 y1 y2 HL3 HFR2
 have HL6:=Zh (p:=Locs w ((w5.alloc (.cells #[Zl none 0 0,Z O 0,Z O 0,Z O 0,Z O 0,Z O 0,Z O 0,Z O 0,Z O 0,Z O 0,Z O 0,Z O 0,Z O 0] 36)).setCells w5.heap.size 0 [Zl t2a t2n t2c,Z O aA,Z O aB,Z O aC,Z O aD,Z O aE,Z O aF,Z O aG,Z O aH,Z O aI,Z O aJ,Z O aK,Z O aL]) [(gy,24,[Z O bef,Z O aft,Zl a m c]),(g1,36,[Zl t1a t1n t1c,Z O aA,Z O aB,Z O aC,Z O aD,Z O aE,Z O aF,Z O aG,Z O aH,Z O aI,Z O aJ,Z O aK,Z O aL]),(w5.heap.size,36,[Zl t2a t2n t2c,Z O aA,Z O aB,Z O aC,Z O aD,Z O aE,Z O aF,Z O aG,Z O aH,Z O aI,Z O aJ,Z O aK,Z O aL])] [(rows1,Zl t1a t1n t1c),(rows2,Zl t2a t2n t2c)]) ((HL5.out.alloc 36 [Zl none 0 0,Z O 0,Z O 0,Z O 0,Z O 0,Z O 0,Z O 0,Z O 0,Z O 0,Z O 0,Z O 0,Z O 0,Z O 0] rfl).setLoc 2 [] [Zl none 0 0,Z O 0,Z O 0,Z O 0,Z O 0,Z O 0,Z O 0,Z O 0,Z O 0,Z O 0,Z O 0,Z O 0,Z O 0] [] [Zl t2a t2n t2c,Z O aA,Z O aB,Z O aC,Z O aD,Z O aE,Z O aF,Z O aG,Z O aH,Z O aI,Z O aJ,Z O aK,Z O aL] rfl rfl)
 clear HL5
 generalize((w5.alloc (.cells #[Zl none 0 0,Z O 0,Z O 0,Z O 0,Z O 0,Z O 0,Z O 0,Z O 0,Z O 0,Z O 0,Z O 0,Z O 0,Z O 0] 36)).setCells w5.heap.size 0 [Zl t2a t2n t2c,Z O aA,Z O aB,Z O aC,Z O aD,Z O aE,Z O aF,Z O aG,Z O aH,Z O aI,Z O aJ,Z O aK,Z O aL])=v2 at HL6 ⊢
 generalize w5.heap.size=g2 at HL6 ⊢
 try simp only [Act.put]
 have HSS:=Zh (p:=∀ W,Below v2.heap.size v2 W→Calls Try.prog 20 #[.agg #[Zl t1a t1n t1c,Z O aA,Z O aB,Z O aC,Z O aD,Z O aE,Z O aF,Z O aG,Z O aH,Z O aI,Z O aJ,Z O aK,Z O aL],.agg #[Zl t2a t2n t2c,Z O aA,Z O aB,Z O aC,Z O aD,Z O aE,Z O aF,Z O aG,Z O aH,Z O aI,Z O aJ,Z O aK,Z O aL]] W fun e w'=>e=.returned (.bool true)∧Below W.heap.size W w') (fun W hW=>same_calls ((HL6.out.stood 0 rfl).below hW) ((HL6.out.stood 1 rfl).below hW) HMP.out (⟨⟨aA,aB⟩,⟨aC,aD⟩,⟨aE,aF⟩,⟨aG,aH⟩,⟨aI,aJ⟩,⟨aK,aL⟩⟩:Yd.Acc))
 have k1:∀ d os,Calls Try.prog 29 #[.agg #[Z O bef,Z O aft,Zl a m c]] (Go.Sort.grow (redrawn v2 d) os) fun e w''=>e=.returned (Z O ey)∧∃ p:Regrown,w''=Go.Sort.grow (redrawn v2 p.d) p.os:=fun d os=>Calls.regrown_of (HCP.out _ (HL6.out.low.trans ((below_regrown v2 d os).mono HL6.out.low.size)))
 have k2:∀ d os,Calls Try.prog 14 #[.agg #[Z O bef,Z O aft,Zl a m c]] (Go.Sort.grow (redrawn v2 d) os) fun e w''=>e=.returned (Z O ey)∧∃ p:Regrown,w''=Go.Sort.grow (redrawn v2 p.d) p.os:=fun d os=>Calls.regrown_of (HCR.out _ (HL6.out.low.trans ((below_regrown v2 d os).mono HL6.out.low.size)))
 have k3:∀ d os,Calls Try.prog 20 #[.agg #[Zl t1a t1n t1c,Z O aA,Z O aB,Z O aC,Z O aD,Z O aE,Z O aF,Z O aG,Z O aH,Z O aI,Z O aJ,Z O aK,Z O aL],.agg #[Zl t2a t2n t2c,Z O aA,Z O aB,Z O aC,Z O aD,Z O aE,Z O aF,Z O aG,Z O aH,Z O aI,Z O aJ,Z O aK,Z O aL]] (Go.Sort.grow (redrawn v2 d) os) fun e w''=>e=.returned (.bool true)∧∃ p:Regrown,w''=Go.Sort.grow (redrawn v2 p.d) p.os:=fun d os=>Calls.regrown_of (HSS.out _ (below_regrown v2 d os))
 have k4:∀ d os,Calls Try.prog 15 #[] (Go.Sort.grow (redrawn v2 d) os) fun e w''=>e=.returned (.bool true)∧∃ p:Regrown,w''=Go.Sort.grow (redrawn v2 p.d) p.os:=fun d os=>Calls.regrown_of (stands_calls _)
 have q0:=cell_regrown (show v2.cell? ⟨gy,0,none⟩=some (Z O bef)from HL6.out.at 0 0 (v:=Z O bef) rfl rfl)
 have q1:=cell_regrown (show v2.cell? ⟨gy,1,none⟩=some (Z O aft)from HL6.out.at 0 1 (v:=Z O aft) rfl rfl)
 have q2:=cell_regrown (show v2.cell? ⟨gy,2,none⟩=some (Zl a m c)from HL6.out.at 0 2 (v:=Zl a m c) rfl rfl)
 have q3:=cell_regrown (show v2.cell? ⟨g1,0,none⟩=some (Zl t1a t1n t1c)from HL6.out.at 1 0 (v:=Zl t1a t1n t1c) rfl rfl)
 have q4:=cell_regrown (show v2.cell? ⟨g1,1,none⟩=some (Z O aA)from HL6.out.at 1 1 (v:=Z O aA) rfl rfl)
 have q5:=cell_regrown (show v2.cell? ⟨g1,2,none⟩=some (Z O aB)from HL6.out.at 1 2 (v:=Z O aB) rfl rfl)
 have q6:=cell_regrown (show v2.cell? ⟨g1,3,none⟩=some (Z O aC)from HL6.out.at 1 3 (v:=Z O aC) rfl rfl)
 have q7:=cell_regrown (show v2.cell? ⟨g1,4,none⟩=some (Z O aD)from HL6.out.at 1 4 (v:=Z O aD) rfl rfl)
 have q8:=cell_regrown (show v2.cell? ⟨g1,5,none⟩=some (Z O aE)from HL6.out.at 1 5 (v:=Z O aE) rfl rfl)
 have q9:=cell_regrown (show v2.cell? ⟨g1,6,none⟩=some (Z O aF)from HL6.out.at 1 6 (v:=Z O aF) rfl rfl)
 have q10:=cell_regrown (show v2.cell? ⟨g1,7,none⟩=some (Z O aG)from HL6.out.at 1 7 (v:=Z O aG) rfl rfl)
 have q11:=cell_regrown (show v2.cell? ⟨g1,8,none⟩=some (Z O aH)from HL6.out.at 1 8 (v:=Z O aH) rfl rfl)
 have q12:=cell_regrown (show v2.cell? ⟨g1,9,none⟩=some (Z O aI)from HL6.out.at 1 9 (v:=Z O aI) rfl rfl)
 have q13:=cell_regrown (show v2.cell? ⟨g1,10,none⟩=some (Z O aJ)from HL6.out.at 1 10 (v:=Z O aJ) rfl rfl)
 have q14:=cell_regrown (show v2.cell? ⟨g1,11,none⟩=some (Z O aK)from HL6.out.at 1 11 (v:=Z O aK) rfl rfl)
 have q15:=cell_regrown (show v2.cell? ⟨g1,12,none⟩=some (Z O aL)from HL6.out.at 1 12 (v:=Z O aL) rfl rfl)
 have q16:=cell_regrown (show v2.cell? ⟨g2,0,none⟩=some (Zl t2a t2n t2c)from HL6.out.at 2 0 (v:=Zl t2a t2n t2c) rfl rfl)
 have q17:=cell_regrown (show v2.cell? ⟨g2,1,none⟩=some (Z O aA)from HL6.out.at 2 1 (v:=Z O aA) rfl rfl)
 have q18:=cell_regrown (show v2.cell? ⟨g2,2,none⟩=some (Z O aB)from HL6.out.at 2 2 (v:=Z O aB) rfl rfl)
 have q19:=cell_regrown (show v2.cell? ⟨g2,3,none⟩=some (Z O aC)from HL6.out.at 2 3 (v:=Z O aC) rfl rfl)
 have q20:=cell_regrown (show v2.cell? ⟨g2,4,none⟩=some (Z O aD)from HL6.out.at 2 4 (v:=Z O aD) rfl rfl)
 have q21:=cell_regrown (show v2.cell? ⟨g2,5,none⟩=some (Z O aE)from HL6.out.at 2 5 (v:=Z O aE) rfl rfl)
 have q22:=cell_regrown (show v2.cell? ⟨g2,6,none⟩=some (Z O aF)from HL6.out.at 2 6 (v:=Z O aF) rfl rfl)
 have q23:=cell_regrown (show v2.cell? ⟨g2,7,none⟩=some (Z O aG)from HL6.out.at 2 7 (v:=Z O aG) rfl rfl)
 have q24:=cell_regrown (show v2.cell? ⟨g2,8,none⟩=some (Z O aH)from HL6.out.at 2 8 (v:=Z O aH) rfl rfl)
 have q25:=cell_regrown (show v2.cell? ⟨g2,9,none⟩=some (Z O aI)from HL6.out.at 2 9 (v:=Z O aI) rfl rfl)
 have q26:=cell_regrown (show v2.cell? ⟨g2,10,none⟩=some (Z O aJ)from HL6.out.at 2 10 (v:=Z O aJ) rfl rfl)
 have q27:=cell_regrown (show v2.cell? ⟨g2,11,none⟩=some (Z O aK)from HL6.out.at 2 11 (v:=Z O aK) rfl rfl)
 have q28:=cell_regrown (show v2.cell? ⟨g2,12,none⟩=some (Z O aL)from HL6.out.at 2 12 (v:=Z O aL) rfl rfl)
 refine wp_region_quiet_below (by kernel_rfl) (by kernel_rfl) ?_
 repeat(go_big_quiet_step (first|(with_reducible exact k1 _ _)|(with_reducible exact k2 _ _)|(with_reducible exact k3 _ _)|(with_reducible exact k4 _ _)))
 refine wpQuiet_nil ?_
 intro wq hw'
 have hb8:Below v2.heap.size v2 wq:=by obtain⟨⟨dq,osq⟩,hw''⟩:=hw';rw [hw''];exact below_regrown _ dq osq
 clear hw' q0 q1 q2 q3 q4 q5 q6 q7 q8 q9 q10 q11 q12 q13 q14 q15 q16 q17 q18 q19 q20 q21 q22 q23 q24 q25 q26 q27 q28 k1 k2 k3 k4
 have HL7:=Zh (HL6.out.below hb8)
 clear hb8 HL6
 generalize wq=v3 at HL7 ⊢
 go_wp2
 go_ret
 exact lawDone HL7.out.low
theorem follows_law (bef aft:Int)(v:Value)(ds:List (Deed Code))(hsz:∀ d ∈ ds,d.stack.size≤maxLen∧d.other.size≤maxLen)(n:Int)(w:World)(h:Held w.heap.size w 8 deedCells v ds) :
  Calls Try.prog 10 #[.agg #[Z O bef,Z O aft,v],Z O n] w (LawDone w):=by
 cases hg:greatB ds with
 | true=>exact follows_great bef aft v ds n w h hg
 | false=>exact follows_small bef aft v ds n w h hsz hg
end Go.Proofs.Ytgekekhbhkgekaa
namespace Go.Proofs.Ytgekekhbhkgekaa
open Go.RowKit Go.ChangeShapes Go.WideShapes
open _root_.Go.Value renaming int → Z, string → Zs
open _root_.Go.IntKind renaming i64 → O
set_option maxRecDepth 100000
section
variable {H:Type} {enc:TypeId × Value→H} {w:World} {held:Bool}
def Read (enc:TypeId × Value→H)(w:World)(held:Bool)(t:TypeId)(cs:List Value):Prop :=
 ∃(n:Nat) (x:DataW H × List MemPlace),DataW.trod enc Try.prog w 0 (fun _=>true) held n t cs=some x∧(x.1.weights Try.prog t).all (·≤reachBytes)=true
theorem lt_of_cell {a:Addr}{v:Value}(h:w.cell? a=some v):a.block<w.heap.size:=by
 unfold World.cell? at h
 split at h
 ·rename_i hb
  exact(Array.getElem?_eq_some_iff.1 hb).1
 ·cases h
theorem weights_all {t:TypeId}{p:Nat→Bool}:∀ {l:List (DataW H)},(DataW.weightsAll Try.prog t l).all p=true→∀ d ∈ l,(d.weights Try.prog t).all p=true
 | [],_,d,hd=>by cases hd
 | x :: r,h,d,hd=>by
   unfold DataW.weightsAll at h
   rw [List.all_append,Bool.and_eq_true]at h
   rcases List.mem_cons.1 hd with rfl | hd
   ·exact h.1
   ·exact weights_all h.2 d hd
theorem weights_each {p:Nat→Bool}:∀ {ts:List TypeId} {l:List (DataW H)},(DataW.weightsEach Try.prog ts l).all p=true→∀(i:Nat) (t:TypeId) (d:DataW H),ts[i]? = some t→l[i]? = some d→(d.weights Try.prog t).all p=true
 | [],_,_,i,t,d,ht,_=>by simp at ht
 | _ :: _,[],_,i,t,d,_,hd=>by simp at hd
 | u :: ts,x :: r,h,i,t,d,ht,hd=>by
   unfold DataW.weightsEach at h
   rw [List.all_append,Bool.and_eq_true]at h
   match i with
   | 0 =>
     simp at ht hd
     rw [← ht,← hd];exact h.1
   | i+1 =>
     simp at ht hd
     exact weights_each h.2 i t d ht hd
theorem read_int {t:TypeId}{cs:List Value}(ht:Try.prog.underlying t=some (.int .i64))(h:Read enc w held t cs):∃ n:Int,cs = [Z O n]:=by
 obtain⟨n,x,h,_⟩:=h
 obtain⟨k,hk,_⟩:=DataW.trod_int ht h
 exact⟨k,hk⟩
theorem read_string {t:TypeId}{cs:List Value}(ht:Try.prog.underlying t=some .string)(h:Read enc w held t cs):∃ s:ByteArray,cs = [Zs s]∧s.size≤9223372036854775807:=by
 obtain⟨n,x,h,_⟩:=h
 obtain⟨s,hs,_,hm⟩:=DataW.trod_string ht h
 exact⟨s,hs,by unfold maxLen at hm;omega⟩
theorem read_field {t:TypeId}{fs:Array Field}{cs:List Value}(ht:Try.prog.underlying t=some (.struct fs))(h:Read enc w held t cs) :
  cs.length=Try.prog.cellsOf t∧∀(i:Nat) (f:Field),fs[i]? = some f→Read enc w held f.type ((cs.drop f.offset).take (Try.prog.cellsOf f.type)):=by
 obtain⟨n,x,h,hw⟩:=h
 obtain⟨xs,m,_,hx,hlen,hxl,hg⟩:=DataW.trod_struct ht h
 refine⟨hlen,fun i f hf=>?_⟩
 have hi:i<xs.length:=by rw [hxl];exact(Array.getElem?_eq_some_iff.1 hf).1
 have hy:xs[i]? = some (xs[i]'hi):=List.getElem?_eq_getElem hi
 refine⟨m,xs[i]'hi,(hg i f hf).trans hy,?_⟩
 rw [hx]at hw
 unfold DataW.weights at hw
 rw [ht]at hw
 exact weights_each hw i f.type _ (by rw [List.getElem?_map,← Array.getElem?_toList]at *;rw [hf];rfl) (by rw [List.getElem?_map,hy];rfl)
theorem len_2 {l:List Value}(h:l.length=2):∃ c0 c1:Value,l = [c0,c1] :=
 match l,h with
 | [c0,c1],_=>⟨c0,c1,rfl⟩
theorem len_3 {l:List Value}(h:l.length=3):∃ c0 c1 c2:Value,l = [c0,c1,c2] :=
 match l,h with
 | [c0,c1,c2],_=>⟨c0,c1,c2,rfl⟩
theorem len_8 {l:List Value}(h:l.length=8):∃ c0 c1 c2 c3 c4 c5 c6 c7:Value,l = [c0,c1,c2,c3,c4,c5,c6,c7] :=
 match l,h with
 | [c0,c1,c2,c3,c4,c5,c6,c7],_=>⟨c0,c1,c2,c3,c4,c5,c6,c7,rfl⟩
theorem list_of {α:Type} [Inhabited α] {p:Nat→α→Prop}:∀ n,(∀ i,i<n→∃ x,p i x)→∃ xs:List α,xs.length=n∧∀ i,i<n→p i xs[i]!
 | 0,_=>⟨[],rfl,fun i hi=>absurd hi (Nat.not_lt_zero _)⟩
 | n+1,h=>by
   obtain⟨xs,hl,hp⟩:=list_of n fun i hi=>h i (by omega)
   obtain⟨x,hx⟩:=h n (by omega)
   refine⟨xs++[x],by simp [hl],fun i hi=>?_⟩
   by_cases hin:i<n
   ·have e:(xs++[x])[i]! = xs[i]! := by
     rw [getElem!_pos (xs++[x]) i (by simp;omega),getElem!_pos xs i (by omega),List.getElem_append_left (by omega)]
    rw [e];exact hp i hin
   ·obtain rfl:i=n:=by omega
    have e:(xs++[x])[i]! = x:=by
     rw [getElem!_pos (xs++[x]) i (by simp;omega)];simp [hl]
    rw [e];exact hx
theorem read_held {α:Type} [Inhabited α] {t e:TypeId}(k:Nat){cell:α→List Value}{OK:α→Prop}{cs:List Value}(ht:Try.prog.underlying t=some (.slice e))(hC:Try.prog.cellsOf e=k)(hk:0<k)(hb:0<Try.prog.bytesOf e)
  (hEl:∀ cs,Read enc w held e cs→∃ a:α,cs=cell a∧OK a) (h:Read enc w held t cs) :
  ∃(v:Value) (xs:List α),cs = [v]∧Held w.heap.size w k cell v xs∧∀ a ∈ xs,OK a:=by
 obtain⟨n,x,h,hw⟩:=h
 rcases Go.Deep.open_slice ht h with⟨hcs,_⟩ | ⟨a,len,cap,m,n',D,Pl,hcs,_,hl,_,hm,hx,hi⟩
 ·exact⟨_,[],hcs,.inl ⟨⟨none,0,rfl⟩,rfl⟩,fun a ha=>by cases ha⟩
 ·obtain rfl:m=cap:=by rw [hm];rfl
  rw [hC]at hi
  rw [hx]at hw
  unfold DataW.weights at hw
  rw [ht]at hw
  rw [List.all_cons,Bool.and_eq_true,List.all_append,Bool.and_eq_true]at hw
  obtain⟨hw1,hw2,_⟩:=hw
  have hcap:m≤140737488355328:=by
   simp only [List.length_map,List.length_range,decide_eq_true_iff]at hw1
   have h1:m*1≤m*Try.prog.bytesOf e:=Nat.mul_le_mul_left _ hb
   have h2:(len+(m-len))=m:=by omega
   rw [h2]at hw1
   have h3:reachBytes≤140737488355328:=by decide
   omega
  by_cases h0:len=0
  ·subst h0
   exact⟨_,[],hcs,.inl ⟨⟨some a,m,rfl⟩,rfl⟩,fun a ha=>by cases ha⟩
  ·obtain⟨xs,hlen,hp⟩:=list_of (p:=fun i (a':α)=>(∃ cs',w.cells? 0 (a.add (i*k)) k=some cs'∧cs'=cell a')∧OK a') len fun i hil=>by
    obtain⟨cs',hc,hr⟩:=hi i (by omega)
    obtain⟨a',ha,hok⟩:=hEl cs' ⟨_,_,hr,weights_all hw2 (D i) (List.mem_map.2 ⟨i,List.mem_range.2 hil,rfl⟩)⟩
    exact⟨a',⟨cs',hc,ha⟩,hok⟩
   have spot:a.spot=none∧a.block<w.heap.size:=by
    obtain⟨⟨cs',hc,_⟩,_⟩:=hp 0 (by omega)
    obtain⟨_,hcl,hat⟩:=World.cells?_some hc
    have:=hat 0 hk
    rw [List.getElem?_eq_getElem (by omega)]at this
    have e:(a.add (0*k)).add 0=a:=by simp [Addr.add]
    rw [e]at this
    exact⟨World.cell?_spot this,lt_of_cell this⟩
   obtain⟨b,off,spot'⟩:=a
   obtain⟨hs,hblk⟩:=spot
   dsimp only at hs hblk
   subst hs
   refine⟨_,xs,hcs,.inr ⟨b,off,m,by rw [hlen],hblk,⟨by omega,by omega,by omega⟩,fun j hj i u hu=>?_⟩,fun a' ha=>?_⟩
   ·obtain⟨⟨cs',hc,he⟩,_⟩:=hp j (by omega)
    obtain⟨_,hcl,hat⟩:=World.cells?_some hc
    have hik:i<k:=by
     rw [← hcl,he]
     exact(List.getElem?_eq_some_iff.1 hu).1
    have:=hat i hik
    rw [he,hu]at this
    rw [← this]
    unfold Addr.add
    by_cases q1:j*k=0 <;> by_cases q2:i=0 <;> simp [q1,q2]
   ·obtain⟨j,hj,rfl⟩:=List.getElem_of_mem ha
    have:=(hp j (by omega)).2
    rwa [getElem!_pos xs j hj]at this
theorem cells_int:Try.prog.cellsOf 3=1:=by kernel_rfl
theorem cells_string:Try.prog.cellsOf 9=1:=by kernel_rfl
theorem cells_bounds:Try.prog.cellsOf 32=2:=by kernel_rfl
theorem cells_kind:Try.prog.cellsOf 53=1:=by kernel_rfl
theorem cells_deed:Try.prog.cellsOf 55=8:=by kernel_rfl
theorem cells_deeds:Try.prog.cellsOf 22=1:=by kernel_rfl
theorem cells_yard:Try.prog.cellsOf 24=3:=by kernel_rfl
theorem bytes_pos_deed:0<Try.prog.bytesOf 55:=of_decide_eq_true (by kernel_rfl)
theorem field_of {fs:Array Field}{cs:List Value}(hf:∀(i:Nat) (f:Field),fs[i]? = some f→Read enc w held f.type ((cs.drop f.offset).take (Try.prog.cellsOf f.type)))(i:Nat){f:Field}(h:fs[i]? = some f){t o k:Nat}(ht:f.type=t)(ho:f.offset=o)(hk:Try.prog.cellsOf t=k) :
  Read enc w held t ((cs.drop o).take k):=by
 have:=hf i f h
 rwa [ht,ho,hk]at this
theorem read_two {t:TypeId}{f0 f1:Field}{cs:List Value}(ht:Try.prog.underlying t=some (.struct #[f0,f1]))(hC:Try.prog.cellsOf t=2)(h0:f0.type=3∧f0.offset=0)(h1:f1.type=3∧f1.offset=1)(h:Read enc w held t cs) :
  ∃ a b:Int,cs = [Z O a,Z O b]:=by
 obtain⟨hl,hf⟩:=read_field ht h
 rw [hC]at hl
 obtain⟨c0,c1,rfl⟩:=len_2 hl
 have g0:Read enc w held 3 [c0]:=field_of hf 0 rfl h0.1 h0.2 cells_int
 have g1:Read enc w held 3 [c1]:=field_of hf 1 rfl h1.1 h1.2 cells_int
 obtain⟨a,ha⟩:=read_int Try.underlying3 g0
 obtain⟨b,hb⟩:=read_int Try.underlying3 g1
 simp at ha hb
 exact⟨a,b,by rw [ha,hb]⟩
theorem read_bounds {cs:List Value}(h:Read enc w held 32 cs):∃ a b:Int,cs = [Z O a,Z O b] :=
 read_two Try.underlying32 cells_bounds ⟨rfl,rfl⟩ ⟨rfl,rfl⟩ h
def DeedSized (d:Yd.Deed Code):Prop:=d.stack.size≤maxLen∧d.other.size≤maxLen
theorem read_deed {cs:List Value}(h:Read enc w held 55 cs):∃ d:Yd.Deed Code,cs=deedCells d∧DeedSized d:=by
 obtain⟨hl,hf⟩:=read_field Try.underlying55 h
 rw [cells_deed]at hl
 obtain⟨c0,c1,c2,c3,c4,c5,c6,c7,rfl⟩:=len_8 hl
 have g0:Read enc w held 53 [c0]:=field_of hf 0 rfl rfl rfl cells_kind
 have g1:Read enc w held 3 [c1]:=field_of hf 1 rfl rfl rfl cells_int
 have g2:Read enc w held 9 [c2]:=field_of hf 2 rfl rfl rfl cells_string
 have g3:Read enc w held 9 [c3]:=field_of hf 3 rfl rfl rfl cells_string
 have g4:Read enc w held 32 [c4,c5]:=field_of hf 4 rfl rfl rfl cells_bounds
 have g5:Read enc w held 32 [c6,c7]:=field_of hf 5 rfl rfl rfl cells_bounds
 obtain⟨kind,e0⟩:=read_int Try.underlying53 g0
 obtain⟨day,e1⟩:=read_int Try.underlying3 g1
 obtain⟨code,e2,h2⟩:=read_string Try.underlying9 g2
 obtain⟨other,e3,h3⟩:=read_string Try.underlying9 g3
 obtain⟨al,ah,e4⟩:=read_bounds g4
 obtain⟨bl,bh,e5⟩:=read_bounds g5
 simp at e0 e1 e2 e3 e4 e5
 obtain⟨rfl,rfl⟩:=e4
 obtain⟨rfl,rfl⟩:=e5
 subst e0 e1 e2 e3
 have hm:maxLen=9223372036854775807:=rfl
 exact⟨⟨kind,day,code,other,⟨_,_⟩,⟨_,_⟩⟩,rfl,by rw [hm];exact h2,by rw [hm];exact h3⟩
theorem read_deeds {cs:List Value}(h:Read enc w held 22 cs):∃(v:Value) (ds:List (Yd.Deed Code)),cs = [v]∧Held w.heap.size w 8 deedCells v ds∧∀ d ∈ ds,DeedSized d:=by
 obtain⟨v,ds,h1,h2,h3⟩:=read_held 8 Try.underlying22 cells_deed (by decide) bytes_pos_deed (fun cs h=>read_deed h) h
 exact⟨v,ds,h1,h2,h3⟩
theorem read_yard {cs:List Value}(h:Read enc w held 24 cs):∃(bef aft:Int) (v:Value) (ds:List (Yd.Deed Code)),cs = [Z O bef,Z O aft,v]∧Held w.heap.size w 8 deedCells v ds∧∀ d ∈ ds,DeedSized d:=by
 obtain⟨hl,hf⟩:=read_field Try.underlying24 h
 rw [cells_yard]at hl
 obtain⟨c0,c1,c2,rfl⟩:=len_3 hl
 have g0:Read enc w held 3 [c0]:=field_of hf 0 rfl rfl rfl cells_int
 have g1:Read enc w held 3 [c1]:=field_of hf 1 rfl rfl rfl cells_int
 have g2:Read enc w held 22 [c2]:=field_of hf 2 rfl rfl rfl cells_deeds
 obtain⟨bef,e0⟩:=read_int Try.underlying3 g0
 obtain⟨aft,e1⟩:=read_int Try.underlying3 g1
 obtain⟨v,ds,e2,h2,h3⟩:=read_deeds g2
 simp at e0 e1 e2
 subst e0 e1 e2
 exact⟨bef,aft,_,ds,rfl,h2,h3⟩
theorem read_arg {t:TypeId}{cs:Array Value}{d:DataW H}{p:List MemPlace}(h:DataW.Trod enc Try.prog w 0 (fun _=>true) held t (.agg cs) d p)(hw:(d.weights Try.prog t).all (·≤reachBytes)=true):Read enc w held t cs.toList:=by
 obtain⟨fuel,hf⟩:=h
 exact⟨fuel,(d,p),hf,hw⟩
theorem open_yard {v:Value}{d:DataW H}{p:List MemPlace}{r:Reach}{b0:Nat}(hv:Value.okWide Try.prog w r b0 24 v)(h:DataW.Trod enc Try.prog w 0 (fun _=>true) held 24 v d p)
  (hw:(d.weights Try.prog 24).all (·≤reachBytes)=true) :
  ∃(bef aft:Int) (dv:Value) (ds:List (Yd.Deed Code)),v=.agg #[Z O bef,Z O aft,dv]∧Held w.heap.size w 8 deedCells dv ds∧∀ d ∈ ds,DeedSized d:=by
 obtain⟨cs,hcs,_⟩:=okWide_struct Try.underlying24 hv
 subst hcs
 obtain⟨bef,aft,dv,ds,hc,hT⟩:=read_yard (read_arg h hw)
 exact⟨bef,aft,dv,ds,by rw [← Array.toArray_toList (xs:=cs),hc],hT⟩
end
end Go.Proofs.Ytgekekhbhkgekaa
namespace Go.Proofs.Ytgekekhbhkgekaa
open Go.RowKit Go.ChangeShapes Go.WideShapes
section
variable {H:Type} {enc:TypeId × Value→H} {w:World} {held:Bool}
end
end Go.Proofs.Ytgekekhbhkgekaa
