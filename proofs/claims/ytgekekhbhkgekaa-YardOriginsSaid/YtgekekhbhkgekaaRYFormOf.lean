/- The forms of the deeds. The form of a kind of deeds. -/
import Derived.Test.YtgekekhbhkgekaaRYMergeFacts
import Derived.Great.BuildSlice
import Derived.Laws.EntriesVeiled
namespace Go.Proofs.Ytgekekhbhkgekaa
open Go Go.RowKit Go.Shelf Yd
open _root_.Go.Value renaming int → Z, string → Zs, slice → Zl
open _root_.Go.IntKind renaming i64 → O
open _root_.Go.Lib renaming hid → Zh
set_option maxRecDepth 100000
set_option maxHeartbeats 16000000
def fWord:Nat→List UInt8
 | 1 => [112,105,108,101] | 2 => [114,101,115,116] | 3 => [98,111,105,108] | 4 => [115,99,114,97,112,101] | 5 => [115,112,108,105,116] | 6 => [109,101,114,103,101] | 7 => [119,101,105,103,104] | 8 => [115,101,108,108] | _ => []
def fOther:Nat→Bool
 | 5=>true | 6=>true | _=>false
def fMost:Nat→List Int
 | 1 => [100000000,100000000] | 2 => [1000] | 3 => [1000,3000] | 4 => [100000000] | 5 => [1000] | 7 => [100000000] | _ => []
def fDo:Nat→Nat
 | 1=>84 | 2=>85 | 3=>86 | 4=>87 | 5=>88 | 6=>89 | 7=>90 | 8=>91 | _=>0
def fAddr (H:Nat):Nat→Option Addr
 | 1=>some ⟨H,0,none⟩ | 2=>some ⟨H+1,0,none⟩ | 3=>some ⟨H+1+1,0,none⟩ | 4=>some ⟨H+1+1+1,0,none⟩ | 5=>some ⟨H+1+1+1+1,0,none⟩ | 7=>some ⟨H+1+1+1+1+1,0,none⟩ | _=>none
def formCells (H k:Nat):List Value:=[Z O k,Zs ⟨(fWord k).toArray⟩,.bool (fOther k),Zl (fAddr H k) (fMost k).length (fMost k).length,.func (.func (fDo k)) #[] #[]]
def allForms (H:Nat):List Value:=formCells H 1++formCells H 2++formCells H 3++formCells H 4++formCells H 5++formCells H 6++formCells H 7++formCells H 8
structure Forms (w w':World)(H:Nat):Prop where
 all:Blk w' (H+1+1+1+1+1+1) 114 (allForms H).toArray
 most:∀ k g,fAddr H k=some ⟨g,0,none⟩→Blk w' g 3 (intCells (fMost k)).toArray
 bel:Below w.heap.size w w'
theorem forms_calls (w:World):Calls Try.prog 82 #[] w fun e w'=>e=.returned (Zl (some ⟨w.heap.size+1+1+1+1+1+1,0,none⟩) 8 8)∧Forms w w' w.heap.size:=by
 go_enter Try.func82,Try.ntmps82
 go_wp2
 go_ret
 have hz:∀(v:World) (o:Obj),(v.alloc o).heap.size=v.heap.size+1:=fun v o=>World.size_alloc v o
 have b0:=Blk.new w 3 #[Z O 100000000,Z O 100000000]
 have b1:=Blk.new' (w:=(w.alloc (.cells #[Z O 100000000,Z O 100000000] 3))) (g:=w.heap.size+1) (by simp only [World.size_alloc]) 3 #[Z O 1000]
 have b2:=Blk.new' (w:=((w.alloc (.cells #[Z O 100000000,Z O 100000000] 3)).alloc (.cells #[Z O 1000] 3))) (g:=w.heap.size+1+1) (by simp only [World.size_alloc]) 3 #[Z O 1000,Z O 3000]
 have b3:=Blk.new' (w:=(((w.alloc (.cells #[Z O 100000000,Z O 100000000] 3)).alloc (.cells #[Z O 1000] 3)).alloc (.cells #[Z O 1000,Z O 3000] 3))) (g:=w.heap.size+1+1+1) (by simp only [World.size_alloc]) 3 #[Z O 100000000]
 have b4:=Blk.new' (w:=((((w.alloc (.cells #[Z O 100000000,Z O 100000000] 3)).alloc (.cells #[Z O 1000] 3)).alloc (.cells #[Z O 1000,Z O 3000] 3)).alloc (.cells #[Z O 100000000] 3))) (g:=w.heap.size+1+1+1+1) (by simp only [World.size_alloc]) 3 #[Z O 1000]
 have b5:=Blk.new' (w:=(((((w.alloc (.cells #[Z O 100000000,Z O 100000000] 3)).alloc (.cells #[Z O 1000] 3)).alloc (.cells #[Z O 1000,Z O 3000] 3)).alloc (.cells #[Z O 100000000] 3)).alloc (.cells #[Z O 1000] 3))) (g:=w.heap.size+1+1+1+1+1) (by simp only [World.size_alloc]) 3 #[Z O 100000000]
 have a0:=(((((b0.alloc (.cells #[Z O 1000] 3)).alloc (.cells #[Z O 1000,Z O 3000] 3)).alloc (.cells #[Z O 100000000] 3)).alloc (.cells #[Z O 1000] 3)).alloc (.cells #[Z O 100000000] 3)).alloc (.cells (allForms w.heap.size).toArray 114)
 have a1:=((((b1.alloc (.cells #[Z O 1000,Z O 3000] 3)).alloc (.cells #[Z O 100000000] 3)).alloc (.cells #[Z O 1000] 3)).alloc (.cells #[Z O 100000000] 3)).alloc (.cells (allForms w.heap.size).toArray 114)
 have a2:=(((b2.alloc (.cells #[Z O 100000000] 3)).alloc (.cells #[Z O 1000] 3)).alloc (.cells #[Z O 100000000] 3)).alloc (.cells (allForms w.heap.size).toArray 114)
 have a3:=((b3.alloc (.cells #[Z O 1000] 3)).alloc (.cells #[Z O 100000000] 3)).alloc (.cells (allForms w.heap.size).toArray 114)
 have a4:=(b4.alloc (.cells #[Z O 100000000] 3)).alloc (.cells (allForms w.heap.size).toArray 114)
 have a5:=b5.alloc (.cells (allForms w.heap.size).toArray 114)
 have al:=Blk.new' (w:=((((((w.alloc (.cells #[Z O 100000000,Z O 100000000] 3)).alloc (.cells #[Z O 1000] 3)).alloc (.cells #[Z O 1000,Z O 3000] 3)).alloc (.cells #[Z O 100000000] 3)).alloc (.cells #[Z O 1000] 3)).alloc (.cells #[Z O 100000000] 3))) (g:=w.heap.size+1+1+1+1+1+1) (by simp only [World.size_alloc]) 114 (allForms w.heap.size).toArray
 refine⟨rfl,al,fun k g hg=>?_,?_⟩
 ·unfold fAddr at hg
  split at hg
  ·cases hg;exact a0
  ·cases hg;exact a1
  ·cases hg;exact a2
  ·cases hg;exact a3
  ·cases hg;exact a4
  ·cases hg;exact a5
  ·cases hg
 ·refine Below.alloc (Below.alloc (Below.alloc (Below.alloc (Below.alloc (Below.alloc (Below.alloc (Below.refl _ _) ?_ _) ?_ _) ?_ _) ?_ _) ?_ _) ?_ _) ?_ _ <;> (try simp only [World.size_alloc]) <;> omega
theorem ofKind_calls (a:Int)(s:ByteArray)(b:Bool)(ma:Option Addr)(mn mc:Nat)(fn:Fn)(f1 f2:Array Value)(kind:Int)(c:Nat)(w:World)(hc:w.cell? ⟨c,0,none⟩=some (Z O kind))(hl:c<w.heap.size) :
  Calls Try.prog 78 #[.agg #[Z O a,Zs s,.bool b,Zl ma mn mc,.func fn f1 f2],.pointer (some ⟨c,0,none⟩)] w fun e w'=>e=.returned (.bool (a == kind))∧Below w.heap.size w w':=by
 go_enter Try.func78,Try.ntmps78
 go_wp2
 go_ret
 exact⟨rfl,(Below.refl _ _).alloc (Nat.le_refl _) _⟩
theorem Forms.at {w w':World}{H:Nat}(h:Forms w w' H)(k:Nat)(hk:k<8)(o:Nat)(ho:o<5):w'.cell? ⟨H+1+1+1+1+1+1,k*5+o,none⟩=(formCells H (k+1))[o]? := by
 rw [h.all.cell]
 match k,hk with
 | 0,_ | 1,_ | 2,_ | 3,_ | 4,_ | 5,_ | 6,_ | 7,_=>match o,ho with
   | 0,_ | 1,_ | 2,_ | 3,_ | 4,_=>rfl
theorem ret_int {k:IntKind}{a b:Int}(h:a=b):Ending.returned (.int k a)=.returned (.int k b):=by rw [h]
def formIx (kind:Int):Int:=if 1≤kind∧kind≤8 then kind-1 else -1
theorem indexForms_calls {w0 w:World}{H:Nat}(h:Forms w0 w H)(kind:Int)(c:Nat)(hc:w.cell? ⟨c,0,none⟩=some (Z O kind))(hl:c<w.heap.size) :
  Calls Try.prog 83 #[Zl (some ⟨H+1+1+1+1+1+1,0,none⟩) 8 8,.func (.func 78) #[] #[.pointer (some ⟨c,0,none⟩)]] w fun e w'=>e=.returned (Z O (formIx kind))∧Below w.heap.size w w':=by
 have hen:∀ args w,(callFunc 78 args).run Try.prog w=.ok (.enter 78 args) w:=enters_of Try.func78 (by kernel_rfl) rfl
 have HF:=Zh (show ∀ k,k<8→∃(s:ByteArray) (b:Bool) (ma:Option Addr) (mn:Nat) (fn:Fn),w.cell? ⟨H+1+1+1+1+1+1,k*5,none⟩=some (Z O ((k+1:Nat):Int))∧w.cell? ⟨H+1+1+1+1+1+1,k*5+1,none⟩=some (Zs s)∧w.cell? ⟨H+1+1+1+1+1+1,k*5+2,none⟩=some (.bool b)∧w.cell? ⟨H+1+1+1+1+1+1,k*5+3,none⟩=some (Zl ma mn mn)∧w.cell? ⟨H+1+1+1+1+1+1,k*5+4,none⟩=some (.func fn #[] #[])from fun k hk =>
  ⟨_,_,_,_,_,h.at k hk 0 (by omega),h.at k hk 1 (by omega),h.at k hk 2 (by omega),h.at k hk 3 (by omega),h.at k hk 4 (by omega)⟩)
 have HC:=Zh hc
 have HZ:=Zh h.all.lt
 clear h hc
 generalize H+1+1+1+1+1+1=G at HF HZ ⊢
 go_enter Try.func83,Try.ntmps83
 go_wp2
 go_loopw [8] (fun v wr => ∃ k:Nat,k≤8∧Hid (∀ j:Nat,1≤j→j≤k→(j:Int)≠kind)∧v=Z O k∧Hid (Below w.heap.size w wr)) (fun v _=>8-(intOf v).toNat)
 case atStart=>exact⟨0,by omega,Zh (fun j h1 h2=>by omega),rfl,Zh (Below.refl _ _)⟩
 case round =>
  obtain⟨k,hk,HJ,rfl,HB⟩:=hrel
  by_cases hlt:k<8
  ·obtain⟨s,b,ma,mn,fn,e0,e1,e2,e3,e4⟩:=HF.out k hlt
   have c0:=(HB.out.cell HZ.out).trans e0
   have c1:=(HB.out.cell HZ.out).trans e1
   have c2:=(HB.out.cell HZ.out).trans e2
   have c3:=(HB.out.cell HZ.out).trans e3
   have c4:=(HB.out.cell HZ.out).trans e4
   have HCR:=Zh ((HB.out.cell hl).trans HC.out)
   have HLR:=Zh (Nat.lt_of_lt_of_le hl HB.out.size)
   clear e0 e1 e2 e3 e4
   obtain⟨a,ha⟩:∃ a:Int,a=((k+1:Nat):Int):=⟨_,rfl⟩
   rw [← ha]at c0
   have HA:=Zh ha
   clear ha
   have hkI:(k:Int)<8:=by omega
   by_cases he:a=kind
   ·have d1:(a == kind)=true:=by simpa using he
    have HE:=Zh he
    clear he
    go_wp2_with (go_at_call 78;refine(ofKind_calls a s b ma mn mn fn #[] #[] kind c _ HCR.out HLR.out).mono ?_;rintro e w' ⟨rfl,hb1⟩;have HB1:=Zh hb1;clear hb1)
    go_ret
    refine⟨ret_int ?_,HB.out.trans (HB1.out.mono HB.out.size)⟩
    have h1:=HA.out
    have h2:=HE.out
    unfold formIx
    rw [if_pos (by omega)]
    omega
   ·have d1:(a == kind)=false:=by simpa using he
    have HE:=Zh he
    clear he
    go_wp2_with (go_at_call 78;refine(ofKind_calls a s b ma mn mn fn #[] #[] kind c _ HCR.out HLR.out).mono ?_;rintro e w' ⟨rfl,hb1⟩;have HB1:=Zh hb1;clear hb1)
    go_roundw
    case rel =>
     refine⟨k+1,by omega,Zh (fun j h1 h2=>?_),by go_num,Zh (HB.out.trans (HB1.out.mono HB.out.size))⟩
     rcases Nat.lt_or_ge j (k+1)with h3 | h3
     ·exact HJ.out j h1 (by omega)
     ·have:j=k+1:=by omega
      subst this
      rw [← HA.out];exact HE.out
    case measure=>simp [intOf];omega
  ·have h8:k=8:=by omega
   subst h8
   go_wp2
   go_ret
   refine⟨ret_int ?_,HB.out⟩
   unfold formIx
   rw [if_neg ?_]
   rintro⟨h1,h2⟩
   exact HJ.out kind.toNat (by omega) (by omega) (by omega)
def FormDone (w:World)(k:Nat)(e:Ending)(w':World):Prop :=
 ∃ ma,e=.returned (.tuple #[.agg #[Z O (k:Int),Zs ⟨(fWord k).toArray⟩,.bool (fOther k),Zl ma (fMost k).length (fMost k).length,.func (.func (fDo k)) #[] #[]],.bool true])∧Below w.heap.size w w' ∧
   (∀ g,ma=some ⟨g,0,none⟩→Blk w' g 3 (intCells (fMost k)).toArray)∧(fMost k = []∨∃ g,ma=some ⟨g,0,none⟩)
theorem fAddr_of (H k:Nat):fMost k = []∨∃ g,fAddr H k=some ⟨g,0,none⟩:=by
 unfold fMost fAddr
 split <;> simp
theorem firstForm_yes {w:World}(k:Nat)(hk:k<8)(c:Nat)(hc:w.cell? ⟨c,0,none⟩=some (Z O ((k+1:Nat):Int)))(hl:c<w.heap.size) :
  Calls Try.prog 77 #[.func (.func 78) #[] #[.pointer (some ⟨c,0,none⟩)]] w (FormDone w (k+1)):=by
 have HC:=Zh hc
 have HL:=Zh hl
 have HIX:=Zh (p:=formIx ((k+1:Nat):Int)=(k:Int)) (by unfold formIx;rw [if_pos (by omega)];omega)
 obtain⟨a,ha⟩:∃ a:Int,a=((k+1:Nat):Int):=⟨_,rfl⟩
 obtain⟨s,hs⟩:∃ s:ByteArray,s=⟨(fWord (k+1)).toArray⟩:=⟨_,rfl⟩
 obtain⟨b,hb⟩:∃ b,b=fOther (k+1):=⟨_,rfl⟩
 obtain⟨mn,hmn⟩:∃ n,n=(fMost (k+1)).length:=⟨_,rfl⟩
 obtain⟨F,hF⟩:∃ n,n=fDo (k+1):=⟨_,rfl⟩
 have HA:=Zh ha;have HSS:=Zh hs;have HBB:=Zh hb;have HMN:=Zh hmn;have HFF:=Zh hF
 clear ha hs hb hmn hF hc hl
 have hk0:(0:Int)≤(k:Int):=by omega
 have hk8:(k:Int)<8:=by omega
 have hkn:¬ ((k:Int)<0):=by omega
 have hZ:=Blk.new w 114 #[Z O 0,Zs ⟨#[]⟩,.bool false,Zl none 0 0,.nilFunc]
 have HZ:=Zh hZ
 clear hZ
 go_enter Try.func77,Try.ntmps77
 go_wp2_with (first
  | (go_at_call 82;refine(forms_calls _).mono ?_;rintro e w1 ⟨rfl,hfm⟩;have HFM:=Zh (p:=Forms _ w1 (w.heap.size+1)) (by have h:=hfm;rwa [World.size_alloc]at h);have HZ1:=Zh (HZ.out.below hfm.bel);have HCC:=Zh ((hfm.bel.cell (p:=⟨c,0,none⟩) (by rw [World.size_alloc];exact Nat.lt_succ_of_lt HL.out)).trans (((Below.refl w.heap.size w).alloc (Nat.le_refl _) (.cells #[Z O 0,Zs ⟨#[]⟩,.bool false,Zl none 0 0,.nilFunc] 114)).cell (p:=⟨c,0,none⟩) HL.out |>.trans HC.out));have HLL:=Zh (p:=c<w1.heap.size) (Nat.lt_of_lt_of_le (Nat.lt_succ_of_lt HL.out) (by have:=hfm.bel.size;rwa [World.size_alloc]at this));clear hfm)
  | (go_at_call 83;refine(indexForms_calls HFM.out ((k+1:Nat):Int) c HCC.out HLL.out).mono ?_;rintro e w2 ⟨rfl,hb2⟩;rw [HIX.out];have HB2:=Zh hb2;have HZ2:=Zh (HZ1.out.below hb2);have hGl:=HFM.out.all.lt
     have c0:=(show w2.cell? _=some (Z O a)from((hb2.cell (p:=⟨_,k*5,none⟩) hGl).trans (HFM.out.at k hk 0 (by omega))).trans (by rw [HA.out];rfl))
     have c1:=(show w2.cell? _=some (Zs s)from((hb2.cell (p:=⟨_,k*5+1,none⟩) hGl).trans (HFM.out.at k hk 1 (by omega))).trans (by rw [HSS.out];rfl))
     have c2:=(show w2.cell? _=some (.bool b)from((hb2.cell (p:=⟨_,k*5+2,none⟩) hGl).trans (HFM.out.at k hk 2 (by omega))).trans (by rw [HBB.out];rfl))
     have c3:=(show w2.cell? _=some (Zl (fAddr _ (k+1)) mn mn)from((hb2.cell (p:=⟨_,k*5+3,none⟩) hGl).trans (HFM.out.at k hk 3 (by omega))).trans (by rw [HMN.out];rfl))
     have c4:=(show w2.cell? _=some (.func (.func F) #[] #[])from((hb2.cell (p:=⟨_,k*5+4,none⟩) hGl).trans (HFM.out.at k hk 4 (by omega))).trans (by rw [HFF.out];rfl))
     have z0:=HZ2.out.at 0 _ rfl;have z1:=HZ2.out.at 1 _ rfl;have z2:=HZ2.out.at 2 _ rfl;have z3:=HZ2.out.at 3 _ rfl;have z4:=HZ2.out.at 4 _ rfl
     have y0:=HZ2.out.frozen 0;have y1:=HZ2.out.frozen 1;have y2:=HZ2.out.frozen 2;have y3:=HZ2.out.frozen 3;have y4:=HZ2.out.frozen 4
     clear hb2))
 have k5:=((((HZ2.out.set_ 0 (Z O a)).set_ 1 (Zs s)).set_ 2 (.bool b)).set_ 3 (Zl (fAddr (w.heap.size+1) (k+1)) mn mn)).set_ 4 (.func (.func F) #[] #[])
 have bW:Below w.heap.size w w2:=((((Below.refl w.heap.size w).alloc (Nat.le_refl _) (.cells #[Z O 0,Zs ⟨#[]⟩,.bool false,Zl none 0 0,.nilFunc] 114)).trans (HFM.out.bel.mono (by rw [World.size_alloc];omega))).trans (HB2.out.mono (by have:=HFM.out.bel.size;rw [World.size_alloc]at this;omega)))
 have b5:Below w.heap.size w (((((w2.setCell ⟨w.heap.size,0,none⟩ (Z O a)).setCell ⟨w.heap.size,1,none⟩ (Zs s)).setCell ⟨w.heap.size,2,none⟩ (.bool b)).setCell ⟨w.heap.size,3,none⟩ (Zl (fAddr (w.heap.size+1) (k+1)) mn mn)).setCell ⟨w.heap.size,4,none⟩ (.func (.func F) #[] #[])):=((((bW.setCell (p:=⟨w.heap.size,0,none⟩) (Nat.le_refl _) _).setCell (p:=⟨w.heap.size,1,none⟩) (Nat.le_refl _) _).setCell (p:=⟨w.heap.size,2,none⟩) (Nat.le_refl _) _).setCell (p:=⟨w.heap.size,3,none⟩) (Nat.le_refl _) _).setCell (p:=⟨w.heap.size,4,none⟩) (Nat.le_refl _) _
 have hm5:∀ g,fAddr (w.heap.size+1) (k+1)=some ⟨g,0,none⟩→Blk (((((w2.setCell ⟨w.heap.size,0,none⟩ (Z O a)).setCell ⟨w.heap.size,1,none⟩ (Zs s)).setCell ⟨w.heap.size,2,none⟩ (.bool b)).setCell ⟨w.heap.size,3,none⟩ (Zl (fAddr (w.heap.size+1) (k+1)) mn mn)).setCell ⟨w.heap.size,4,none⟩ (.func (.func F) #[] #[])) g 3 (intCells (fMost (k+1))).toArray:=fun g hg=>by
  have hB:=(HFM.out.most (k+1) g hg).below HB2.out
  have hne:g≠w.heap.size:=fun e=>by
   have h2:=HZ2.out
   rw [← e]at h2
   have h3:=hB.symm.trans h2
   simp at h3
  exact((((hB.far (p:=⟨w.heap.size,0,none⟩) hne _).far (p:=⟨w.heap.size,1,none⟩) hne _).far (p:=⟨w.heap.size,2,none⟩) hne _).far (p:=⟨w.heap.size,3,none⟩) hne _).far (p:=⟨w.heap.size,4,none⟩) hne _
 generalize World.setCell _ _ _=W5 at k5 b5 hm5 ⊢
 have r0:=k5.at 0 (Z O a) rfl
 have r1:=k5.at 1 (Zs s) rfl
 have r2:=k5.at 2 (.bool b) rfl
 have r3:=k5.at 3 (Zl (fAddr (w.heap.size+1) (k+1)) mn mn) rfl
 have r4:=k5.at 4 (.func (.func F) #[] #[]) rfl
 exact bodyPost_ret (v:=.tuple #[.agg #[Z O a,Zs s,.bool b,Zl (fAddr (w.heap.size+1) (k+1)) mn mn,.func (.func F) #[] #[]],.bool true]) (by simp [results,Try.results77,go_sem,r0,r1,r2,r3,r4]) rfl
  ⟨fAddr (w.heap.size+1) (k+1),by rw [HA.out,HSS.out,HBB.out,HMN.out,HFF.out],b5,hm5,fAddr_of _ _⟩
theorem firstForm_no {w:World}(kind:Int)(hk:¬ (1≤kind∧kind≤8))(c:Nat)(hc:w.cell? ⟨c,0,none⟩=some (Z O kind))(hl:c<w.heap.size) :
  Calls Try.prog 77 #[.func (.func 78) #[] #[.pointer (some ⟨c,0,none⟩)]] w fun e w'=>e=.returned (.tuple #[.agg #[Z O 0,Zs ⟨#[]⟩,.bool false,Zl none 0 0,.nilFunc],.bool false])∧Below w.heap.size w w':=by
 have HC:=Zh hc
 have HL:=Zh hl
 have HIX:=Zh (p:=formIx kind = -1) (by unfold formIx;rw [if_neg hk])
 clear hc hl hk
 have hZ:=Blk.new w 114 #[Z O 0,Zs ⟨#[]⟩,.bool false,Zl none 0 0,.nilFunc]
 have HZ:=Zh hZ
 clear hZ
 go_enter Try.func77,Try.ntmps77
 go_wp2_with (first
  | (go_at_call 82;refine(forms_calls _).mono ?_;rintro e w1 ⟨rfl,hfm⟩;have HFM:=Zh (p:=Forms _ w1 (w.heap.size+1)) (by have h:=hfm;rwa [World.size_alloc]at h);have HZ1:=Zh (HZ.out.below hfm.bel);have HCC:=Zh ((hfm.bel.cell (p:=⟨c,0,none⟩) (by rw [World.size_alloc];exact Nat.lt_succ_of_lt HL.out)).trans (((Below.refl w.heap.size w).alloc (Nat.le_refl _) (.cells #[Z O 0,Zs ⟨#[]⟩,.bool false,Zl none 0 0,.nilFunc] 114)).cell (p:=⟨c,0,none⟩) HL.out |>.trans HC.out));have HLL:=Zh (p:=c<w1.heap.size) (Nat.lt_of_lt_of_le (Nat.lt_succ_of_lt HL.out) (by have:=hfm.bel.size;rwa [World.size_alloc]at this));clear hfm)
  | (go_at_call 83;refine(indexForms_calls HFM.out kind c HCC.out HLL.out).mono ?_;rintro e w2 ⟨rfl,hb2⟩;rw [HIX.out];have HB2:=Zh hb2;have HZ2:=Zh (HZ1.out.below hb2)
     have z0:=HZ2.out.at 0 _ rfl;have z1:=HZ2.out.at 1 _ rfl;have z2:=HZ2.out.at 2 _ rfl;have z3:=HZ2.out.at 3 _ rfl;have z4:=HZ2.out.at 4 _ rfl
     have y0:=HZ2.out.frozen 0;have y1:=HZ2.out.frozen 1;have y2:=HZ2.out.frozen 2;have y3:=HZ2.out.frozen 3;have y4:=HZ2.out.frozen 4
     clear hb2))
 have k5:=((((HZ2.out.set_ 0 (Z O 0)).set_ 1 (Zs ⟨#[]⟩)).set_ 2 (.bool false)).set_ 3 (Zl none 0 0)).set_ 4 .nilFunc
 have bW:Below w.heap.size w w2:=((((Below.refl w.heap.size w).alloc (Nat.le_refl _) (.cells #[Z O 0,Zs ⟨#[]⟩,.bool false,Zl none 0 0,.nilFunc] 114)).trans (HFM.out.bel.mono (by rw [World.size_alloc];omega))).trans (HB2.out.mono (by have:=HFM.out.bel.size;rw [World.size_alloc]at this;omega)))
 have b5:Below w.heap.size w (((((w2.setCell ⟨w.heap.size,0,none⟩ (Z O 0)).setCell ⟨w.heap.size,1,none⟩ (Zs ⟨#[]⟩)).setCell ⟨w.heap.size,2,none⟩ (.bool false)).setCell ⟨w.heap.size,3,none⟩ (Zl none 0 0)).setCell ⟨w.heap.size,4,none⟩ .nilFunc):=((((bW.setCell (p:=⟨w.heap.size,0,none⟩) (Nat.le_refl _) _).setCell (p:=⟨w.heap.size,1,none⟩) (Nat.le_refl _) _).setCell (p:=⟨w.heap.size,2,none⟩) (Nat.le_refl _) _).setCell (p:=⟨w.heap.size,3,none⟩) (Nat.le_refl _) _).setCell (p:=⟨w.heap.size,4,none⟩) (Nat.le_refl _) _
 generalize World.setCell _ _ _=W5 at k5 b5 ⊢
 have r0:=k5.at 0 (Z O 0) rfl
 have r1:=k5.at 1 (Zs ⟨#[]⟩) rfl
 have r2:=k5.at 2 (.bool false) rfl
 have r3:=k5.at 3 (Zl none 0 0) rfl
 have r4:=k5.at 4 .nilFunc rfl
 exact bodyPost_ret (v:=.tuple #[.agg #[Z O 0,Zs ⟨#[]⟩,.bool false,Zl none 0 0,.nilFunc],.bool false]) (by simp [results,Try.results77,go_sem,r0,r1,r2,r3,r4]) rfl ⟨rfl,b5⟩
theorem formOf_yes {w:World}(k:Nat)(hk:k<8)(kind:Int)(hkd:kind=((k+1:Nat):Int)) :
  Calls Try.prog 63 #[Z O kind] w (FormDone w (k+1)):=by
 obtain⟨a,ha⟩:∃ a:Int,a=((k+1:Nat):Int):=⟨_,rfl⟩
 obtain⟨s,hs⟩:∃ s:ByteArray,s=⟨(fWord (k+1)).toArray⟩:=⟨_,rfl⟩
 obtain⟨b,hb⟩:∃ b,b=fOther (k+1):=⟨_,rfl⟩
 obtain⟨mn,hmn⟩:∃ n,n=(fMost (k+1)).length:=⟨_,rfl⟩
 obtain⟨F,hF⟩:∃ n,n=fDo (k+1):=⟨_,rfl⟩
 obtain rfl:kind=a:=hkd.trans ha.symm
 have HA:=Zh ha;have HSS:=Zh hs;have HBB:=Zh hb;have HMN:=Zh hmn;have HFF:=Zh hF
 clear ha hs hb hmn hF hkd
 have HZ:=Zh (Blk.new' (w:=w.alloc (.cells #[Z O kind] 53)) (g:=w.heap.size+1) (World.size_alloc _ _) 114 #[Z O 0,Zs ⟨#[]⟩,.bool false,Zl none 0 0,.nilFunc])
 have HC:=Zh (p:=((w.alloc (.cells #[Z O kind] 53)).alloc (.cells #[Z O 0,Zs ⟨#[]⟩,.bool false,Zl none 0 0,.nilFunc] 114)).cell? ⟨w.heap.size,0,none⟩=some (Z O kind)) (((Blk.new w 53 #[Z O kind]).alloc (.cells #[Z O 0,Zs ⟨#[]⟩,.bool false,Zl none 0 0,.nilFunc] 114)).at 0 _ rfl)
 have HL:=Zh (show w.heap.size<((w.alloc (.cells #[Z O kind] 53)).alloc (.cells #[Z O 0,Zs ⟨#[]⟩,.bool false,Zl none 0 0,.nilFunc] 114)).heap.size by simp only [World.size_alloc];omega)
 have HBW:=Zh (p:=Below w.heap.size w ((w.alloc (.cells #[Z O kind] 53)).alloc (.cells #[Z O 0,Zs ⟨#[]⟩,.bool false,Zl none 0 0,.nilFunc] 114))) (((Below.refl w.heap.size w).alloc (Nat.le_refl _) _).alloc (by simp only [World.size_alloc];omega) _)
 have hmf:∀(fn:Fn) (first cap:Array Value) (w:World),(Instr.makeFunc fn first cap).run Try.prog w=.ok (.func fn first cap) w:=fun _ _ _ _=>rfl
 go_enter Try.func63,Try.ntmps63
 go_wp2_with (go_at_call 77;refine(firstForm_yes k hk w.heap.size (HC.out.trans (by rw [HA.out])) HL.out).mono ?_;rintro e w2 ⟨ma,rfl,hb2,hm2,hma⟩;rw [← HA.out,← HSS.out,← HBB.out,← HMN.out,← HFF.out];have HZ2:=Zh (HZ.out.below hb2);have bW:=HBW.out.trans (hb2.mono HBW.out.size);have z0:=HZ2.out.at 0 _ rfl;have z1:=HZ2.out.at 1 _ rfl;have z2:=HZ2.out.at 2 _ rfl;have z3:=HZ2.out.at 3 _ rfl;have z4:=HZ2.out.at 4 _ rfl;have y0:=HZ2.out.frozen 0;have y1:=HZ2.out.frozen 1;have y2:=HZ2.out.frozen 2;have y3:=HZ2.out.frozen 3;have y4:=HZ2.out.frozen 4;have HB2:=Zh hb2;clear hb2;have HM2:=Zh hm2;have HMA:=Zh hma;clear hm2 hma)
 have k5:=((((HZ2.out.set_ 0 (Z O kind)).set_ 1 (Zs s)).set_ 2 (.bool b)).set_ 3 (Zl ma mn mn)).set_ 4 (.func (.func F) #[] #[])
 have b5:Below w.heap.size w (((((w2.setCell ⟨w.heap.size+1,0,none⟩ (Z O kind)).setCell ⟨w.heap.size+1,1,none⟩ (Zs s)).setCell ⟨w.heap.size+1,2,none⟩ (.bool b)).setCell ⟨w.heap.size+1,3,none⟩ (Zl ma mn mn)).setCell ⟨w.heap.size+1,4,none⟩ (.func (.func F) #[] #[])):=(((((bW.setCell (p:=⟨w.heap.size+1,0,none⟩) (Nat.le_succ _) _).setCell (p:=⟨w.heap.size+1,1,none⟩) (Nat.le_succ _) _).setCell (p:=⟨w.heap.size+1,2,none⟩) (Nat.le_succ _) _).setCell (p:=⟨w.heap.size+1,3,none⟩) (Nat.le_succ _) _).setCell (p:=⟨w.heap.size+1,4,none⟩) (Nat.le_succ _) _)
 have hm5:∀ g,ma=some ⟨g,0,none⟩→Blk (((((w2.setCell ⟨w.heap.size+1,0,none⟩ (Z O kind)).setCell ⟨w.heap.size+1,1,none⟩ (Zs s)).setCell ⟨w.heap.size+1,2,none⟩ (.bool b)).setCell ⟨w.heap.size+1,3,none⟩ (Zl ma mn mn)).setCell ⟨w.heap.size+1,4,none⟩ (.func (.func F) #[] #[])) g 3 (intCells (fMost (k+1))).toArray:=fun g hg=>by
  have hB:=HM2.out g hg
  have hne:g≠w.heap.size+1:=fun e=>by
   have h2:=HZ2.out
   rw [← e]at h2
   have h3:=hB.symm.trans h2
   simp at h3
  exact((((hB.far (p:=⟨w.heap.size+1,0,none⟩) hne _).far (p:=⟨w.heap.size+1,1,none⟩) hne _).far (p:=⟨w.heap.size+1,2,none⟩) hne _).far (p:=⟨w.heap.size+1,3,none⟩) hne _).far (p:=⟨w.heap.size+1,4,none⟩) hne _
 generalize World.setCell _ _ _=W5 at k5 b5 hm5 ⊢
 have r0:=k5.at 0 (Z O kind) rfl
 have r1:=k5.at 1 (Zs s) rfl
 have r2:=k5.at 2 (.bool b) rfl
 have r3:=k5.at 3 (Zl ma mn mn) rfl
 have r4:=k5.at 4 (.func (.func F) #[] #[]) rfl
 exact bodyPost_ret (v:=.tuple #[.agg #[Z O kind,Zs s,.bool b,Zl ma mn mn,.func (.func F) #[] #[]],.bool true]) (by simp [results,Try.results63,go_sem,r0,r1,r2,r3,r4]) rfl
  ⟨ma,by rw [HA.out,HSS.out,HBB.out,HMN.out,HFF.out],b5,hm5,HMA.out⟩
theorem formOf_no {w:World}(kind:Int)(hk:¬ (1≤kind∧kind≤8)) :
  Calls Try.prog 63 #[Z O kind] w fun e w'=>e=.returned (.tuple #[.agg #[Z O 0,Zs ⟨#[]⟩,.bool false,Zl none 0 0,.nilFunc],.bool false])∧Below w.heap.size w w':=by
 have HZ:=Zh (Blk.new' (w:=w.alloc (.cells #[Z O kind] 53)) (g:=w.heap.size+1) (World.size_alloc _ _) 114 #[Z O 0,Zs ⟨#[]⟩,.bool false,Zl none 0 0,.nilFunc])
 have HC:=Zh (p:=((w.alloc (.cells #[Z O kind] 53)).alloc (.cells #[Z O 0,Zs ⟨#[]⟩,.bool false,Zl none 0 0,.nilFunc] 114)).cell? ⟨w.heap.size,0,none⟩=some (Z O kind)) (((Blk.new w 53 #[Z O kind]).alloc (.cells #[Z O 0,Zs ⟨#[]⟩,.bool false,Zl none 0 0,.nilFunc] 114)).at 0 _ rfl)
 have HL:=Zh (show w.heap.size<((w.alloc (.cells #[Z O kind] 53)).alloc (.cells #[Z O 0,Zs ⟨#[]⟩,.bool false,Zl none 0 0,.nilFunc] 114)).heap.size by simp only [World.size_alloc];omega)
 have HBW:=Zh (p:=Below w.heap.size w ((w.alloc (.cells #[Z O kind] 53)).alloc (.cells #[Z O 0,Zs ⟨#[]⟩,.bool false,Zl none 0 0,.nilFunc] 114))) (((Below.refl w.heap.size w).alloc (Nat.le_refl _) _).alloc (by simp only [World.size_alloc];omega) _)
 have hmf:∀(fn:Fn) (first cap:Array Value) (w:World),(Instr.makeFunc fn first cap).run Try.prog w=.ok (.func fn first cap) w:=fun _ _ _ _=>rfl
 go_enter Try.func63,Try.ntmps63
 go_wp2_with (go_at_call 77;refine(firstForm_no kind hk w.heap.size HC.out HL.out).mono ?_;rintro e w2 ⟨rfl,hb2⟩;have HZ2:=Zh (HZ.out.below hb2);have bW:=HBW.out.trans (hb2.mono HBW.out.size);have z0:=HZ2.out.at 0 _ rfl;have z1:=HZ2.out.at 1 _ rfl;have z2:=HZ2.out.at 2 _ rfl;have z3:=HZ2.out.at 3 _ rfl;have z4:=HZ2.out.at 4 _ rfl;have y0:=HZ2.out.frozen 0;have y1:=HZ2.out.frozen 1;have y2:=HZ2.out.frozen 2;have y3:=HZ2.out.frozen 3;have y4:=HZ2.out.frozen 4;have HB2:=Zh hb2;clear hb2)
 have k5:=((((HZ2.out.set_ 0 (Z O 0)).set_ 1 (Zs ⟨#[]⟩)).set_ 2 (.bool false)).set_ 3 (Zl none 0 0)).set_ 4 .nilFunc
 have b5:Below w.heap.size w (((((w2.setCell ⟨w.heap.size+1,0,none⟩ (Z O 0)).setCell ⟨w.heap.size+1,1,none⟩ (Zs ⟨#[]⟩)).setCell ⟨w.heap.size+1,2,none⟩ (.bool false)).setCell ⟨w.heap.size+1,3,none⟩ (Zl none 0 0)).setCell ⟨w.heap.size+1,4,none⟩ (.nilFunc)):=(((((bW.setCell (p:=⟨w.heap.size+1,0,none⟩) (Nat.le_succ _) _).setCell (p:=⟨w.heap.size+1,1,none⟩) (Nat.le_succ _) _).setCell (p:=⟨w.heap.size+1,2,none⟩) (Nat.le_succ _) _).setCell (p:=⟨w.heap.size+1,3,none⟩) (Nat.le_succ _) _).setCell (p:=⟨w.heap.size+1,4,none⟩) (Nat.le_succ _) _)
 generalize World.setCell _ _ _=W5 at k5 b5 ⊢
 have r0:=k5.at 0 (Z O 0) rfl
 have r1:=k5.at 1 (Zs ⟨#[]⟩) rfl
 have r2:=k5.at 2 (.bool false) rfl
 have r3:=k5.at 3 (Zl none 0 0) rfl
 have r4:=k5.at 4 .nilFunc rfl
 exact bodyPost_ret (v:=.tuple #[.agg #[Z O 0,Zs ⟨#[]⟩,.bool false,Zl none 0 0,.nilFunc],.bool false]) (by simp [results,Try.results63,go_sem,r0,r1,r2,r3,r4]) rfl ⟨rfl,b5⟩
end Go.Proofs.Ytgekekhbhkgekaa
