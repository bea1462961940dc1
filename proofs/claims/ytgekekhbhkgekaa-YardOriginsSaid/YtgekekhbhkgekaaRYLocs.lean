/- The chapter's example: the yard. The chapter's examples stand. A list copied by append; the deeds of a yard in another order. What the laws of layer 5 share: shorter lists, deeds with narrower bounds, numbers picked within bounds, exact numbers; the blocks that a statement's own call makes, and the standings that it has, in one fact. -/
import Derived.Test.YtgekekhbhkgekaaRYMoist
import Derived.Test.YtgekekhbhkgekaaRYHeld
import Derived.Test.YtgekekhbhkgekaaRYCheckYard
import Derived.Deep.MidRow
import Derived.Laws.OwnMore
import Derived.WalkKit
import Derived.Test.YtgekekhbhkgekaaRYRefYard
namespace Go.Proofs.Ytgekekhbhkgekaa
open Go Go.RowKit Go.Shelf Yd
open _root_.Go.Value renaming int → Z, string → Zs, slice → Zl
open _root_.Go.IntKind renaming i64 → O
open _root_.Go.Lib renaming hid → Zh
open _root_.Nat renaming le_of_ble_eq_true → Zn
open _root_.Go renaming wpList_store_mid → Zw, cell_regrown → Zg, below_regrown → Zk
set_option maxRecDepth 100000
set_option maxHeartbeats 16000000
def cA:Code:=⟨#[65]⟩
def cB:Code:=⟨#[66]⟩
def cN:Code:=⟨#[]⟩
def exDeeds:List (Deed Code):=[⟨1,0,cA,cN,⟨1000,1100⟩,⟨300,400⟩⟩,⟨2,100,cA,cN,⟨500,600⟩,⟨0,0⟩⟩,⟨3,180,cA,cN,⟨20,30⟩,⟨400,450⟩⟩,⟨4,194,cA,cN,⟨10,20⟩,⟨0,0⟩⟩,⟨5,194,cA,cB,⟨250,250⟩,⟨0,0⟩⟩,⟨7,200,cB,cN,⟨380,390⟩,⟨0,0⟩⟩,⟨8,200,cA,cN,⟨0,0⟩,⟨0,0⟩⟩]
def exA:Stk Code:=⟨cA,⟨713,801⟩,⟨390,522⟩,0,180,[0]⟩
def exB:Stk Code:=⟨cB,⟨237,260⟩,⟨130,153⟩,0,180,[0]⟩
def exAcc:Yd.Acc:=⟨⟨150,240⟩,⟨20,33⟩,⟨10,20⟩,⟨0,0⟩,⟨0,0⟩,⟨400,495⟩⟩
theorem ex_ok:errYard 180 14 exDeeds=0:=by rfl
theorem ex_six:Yd.follow 180 14 exDeeds 6=(⟨[exA,exB],exAcc⟩,6,0):=by rfl
theorem ex_seven:(Yd.follow 180 14 exDeeds 7).2.2=0:=by rfl
theorem ex_b:(Yd.follow 180 14 exDeeds 7).1.stacks[at_ (Yd.follow 180 14 exDeeds 7).1.stacks cB]? = some exB:=by rfl
theorem ex_sizes:∀ d ∈ exDeeds,d.stack.size≤maxLen∧d.other.size≤maxLen:=by
 intro d hd
 have h1:(1:Nat)≤maxLen:=by decide
 simp only [exDeeds,List.mem_cons,List.not_mem_nil,or_false]at hd
 rcases hd with rfl | rfl | rfl | rfl | rfl | rfl | rfl <;> exact⟨h1,Nat.le_trans (by decide) h1⟩
theorem bounds_calls (a b:Int)(w:World):Calls Try.prog 25 #[Z O a,Z O b] w fun e w'=>e=.returned (.agg #[Z O a,Z O b])∧Below w.heap.size w w':=by
 go_enter Try.func25,Try.ntmps25
 go_wp2
 refine bodyPost_ret (v:=.agg #[Z O a,Z O b]) (by simp [results,Try.results25,go_sem]) rfl ⟨rfl,?_⟩
 (repeat(first|(refine Below.setCell ?_ (by first|(simp;done)|(simp;omega)) _)|(refine Below.alloc ?_ (by first|(simp;done)|(simp;omega)) _)|(refine Below.drew ?_)))
 exact Below.refl _ _
def exCells:Array Value:=#[Z O 1,Z O 0,Zs ⟨#[65]⟩,Zs ⟨#[]⟩,Z O 1000,Z O 1100,Z O 300,Z O 400,Z O 2,Z O 100,Zs ⟨#[65]⟩,Zs ⟨#[]⟩,Z O 500,Z O 600,Z O 0,Z O 0,Z O 3,Z O 180,Zs ⟨#[65]⟩,Zs ⟨#[]⟩,Z O 20,Z O 30,Z O 400,Z O 450,Z O 4,Z O 194,Zs ⟨#[65]⟩,Zs ⟨#[]⟩,Z O 10,Z O 20,Z O 0,Z O 0,Z O 5,Z O 194,Zs ⟨#[65]⟩,Zs ⟨#[66]⟩,Z O 250,Z O 250,Z O 0,Z O 0,Z O 7,Z O 200,Zs ⟨#[66]⟩,Zs ⟨#[]⟩,Z O 380,Z O 390,Z O 0,Z O 0,Z O 8,Z O 200,Zs ⟨#[65]⟩,Zs ⟨#[]⟩,Z O 0,Z O 0,Z O 0,Z O 0]
theorem ex_held {w:World}{g:Nat}(h:Blk w g 55 exCells):Held w.heap.size w 8 deedCells (Zl (some ⟨g,0,none⟩) 7 7) exDeeds:=by
 refine .inr ⟨g,0,7,rfl,h.lt,⟨by decide,by decide,by decide⟩,fun j hj i u hu=>?_⟩
 have hi:i<8:=by simpa [deedCells] using(List.getElem?_eq_some_iff.1 hu).1
 have hj:j<7:=hj
 rw [← hu,Nat.zero_add,h.cell]
 match j,hj with
 | 0,_ | 1,_ | 2,_ | 3,_ | 4,_ | 5,_ | 6,_=>match i,hi with
   | 0,_ | 1,_ | 2,_ | 3,_ | 4,_ | 5,_ | 6,_ | 7,_=>rfl
theorem size_yard:(Try.prog.info? 24).map (·.size)=some 3:=by kernel_rfl
theorem example_calls (w:World):Calls Try.prog 39 #[] w fun e w' => ∃ g,e=.returned (.agg #[Z O 180,Z O 14,Zl (some ⟨g,0,none⟩) 7 7])∧Below w.heap.size w w'∧Blk w' g 55 exCells:=by
 have HW0:=Zh ((Below.refl w.heap.size w).alloc (Nat.le_refl _) (.cells #[Z O 0,Z O 0,Zl none 0 0] 24))
 have HK0:=Zh (Blk.new w 24 #[Z O 0,Z O 0,Zl none 0 0])
 go_enter Try.func39,Try.ntmps39
 go_wp2_with (first
  | (go_at_call 25;refine(bounds_calls _ _ _).mono ?_;rintro e w2 ⟨rfl,hb2⟩;first|(have HW:=Zh (HW.out.trans (hb2.mono HW.out.size));have HK:=Zh (HK.out.below hb2);clear hb2)|(have HW:=Zh (HW0.out.trans (hb2.mono HW0.out.size));have HK:=Zh (HK0.out.below hb2);clear hb2))
  | ((with_reducible refine at_store 24 (.tmp 0) (.tmp 17) ?_);go_must (refine Zw rfl 24 (.tmp 0) (.tmp 17) rfl w.heap.size 0 #[Z O 180,Z O 14,Zl (some ⟨w2.heap.size,0,none⟩) 7 7] rfl rfl ((HK.out.alloc _).there (o:=0) (n:=3) (Zn rfl)) size_yard (show(#[Z O 180,Z O 14,Zl (some ⟨w2.heap.size,0,none⟩) 7 7]:Array Value).all (·.oneCell')=true from by simp [Value.oneCell']) ?_)))
 have hk2:=(HK.out.alloc (.cells exCells 55)).stored (old:=[Z O 0,Z O 0,Zl none 0 0]) [Z O 180,Z O 14,Zl (some ⟨w2.heap.size,0,none⟩) 7 7] rfl
 have hlt:=HK.out.lt
 refine bodyPost_ret (results_cell_row rfl _ _ w.heap.size 24 _ (0,0) _ rfl hk2 Try.underlying24 rfl size_yard) rfl ⟨w2.heap.size,rfl,below_setCells (HW.out.alloc HW.out.size _) (Nat.le_refl _) _ 0,?_⟩
 exact(Blk.new w2 55 exCells).apart (Nat.ne_of_gt hlt) 0 _
theorem two_rows {rows:List SRow}(h:rows.map (·.1) = [exA,exB]):∃ va vb,rows = [(exA,va),(exB,vb)]:=by
 match rows,h with
 | [(a,va),(b,vb)],h =>
   simp only [List.map_cons,List.map_nil,List.cons.injEq,and_true]at h
   exact⟨va,vb,by rw [h.1,h.2]⟩
theorem stands_calls (w:World):Calls Try.prog 15 #[] w fun e w'=>e=.returned (.bool true)∧Below w.heap.size w w':=by
 have HB0:=Zh (Below.refl w.heap.size w)
 go_enter Try.func15,Try.ntmps15
 go_upto_region 2 with(first
  | (go_at_call 39;refine(example_calls _).mono ?_;rintro e w1 ⟨g1,rfl,hb1,hk1⟩;have HB1:=Zh (HB0.out.trans hb1);have HK1:=Zh hk1;clear hb1 hk1)
  | (go_at_call 16;refine(follow_calls 180 14 _ exDeeds 6 _ (ex_held HK1.out) ex_ok ex_sizes (by decide) (by decide)).mono ?_;rintro e w2 ⟨rows,tv,acc,k,f,hfo,_,_,rfl,hb2,hst⟩;rw [ex_six]at hfo;obtain⟨hf1,rfl,rfl⟩:(⟨[exA,exB],exAcc⟩:St Code)=stOf rows acc∧6=k∧0=f:=(by simpa using hfo);obtain⟨hf2,rfl⟩ : [exA,exB]=rows.map (·.1)∧exAcc=acc:=(by simpa [stOf] using hf1);obtain⟨va,vb,rfl⟩:=two_rows hf2.symm;obtain⟨ta,tn,tc,rfl⟩:=row_slice hst.things;have HST:=Zh hst;have HB2:=Zh (HB1.out.trans (hb2.mono HB1.out.size));have HZ2:=Zh (Blk.new w2 36 #[Zl none 0 0,Z O 0,Z O 0,Z O 0,Z O 0,Z O 0,Z O 0,Z O 0,Z O 0,Z O 0,Z O 0,Z O 0,Z O 0]);clear hfo hf1 hf2 hst hb2)
  | ((with_reducible refine at_store 36 (.tmp 1) (.tmp 10) ?_);go_must (refine Zw rfl 36 (.tmp 1) (.tmp 10) rfl w2.heap.size 0 #[Zl ta tn tc,Z O 150,Z O 240,Z O 20,Z O 33,Z O 10,Z O 20,Z O 0,Z O 0,Z O 0,Z O 0,Z O 400,Z O 495] rfl rfl (HZ2.out.there (o:=0) (n:=13) (Zn rfl)) size_standing (show(#[Zl ta tn tc,Z O 150,Z O 240,Z O 20,Z O 33,Z O 10,Z O 20,Z O 0,Z O 0,Z O 0,Z O 0,Z O 400,Z O 495]:Array Value).all (·.oneCell')=true from by simp [Value.oneCell']) ?_)))
 have HZ3:=Zh (HZ2.out.stored (old:=[Zl none 0 0,Z O 0,Z O 0,Z O 0,Z O 0,Z O 0,Z O 0,Z O 0,Z O 0,Z O 0,Z O 0,Z O 0,Z O 0]) [Zl ta tn tc,Z O 150,Z O 240,Z O 20,Z O 33,Z O 10,Z O 20,Z O 0,Z O 0,Z O 0,Z O 0,Z O 400,Z O 495] rfl)
 have HB3:=Zh (below_setCells (HB2.out.alloc HB2.out.size (.cells #[Zl none 0 0,Z O 0,Z O 0,Z O 0,Z O 0,Z O 0,Z O 0,Z O 0,Z O 0,Z O 0,Z O 0,Z O 0,Z O 0] 36)) HB2.out.size [Zl ta tn tc,Z O 150,Z O 240,Z O 20,Z O 33,Z O 10,Z O 20,Z O 0,Z O 0,Z O 0,Z O 0,Z O 400,Z O 495] 0)
 have HST3:=Zh ((HST.out.same (w':=w2.alloc (.cells #[Zl none 0 0,Z O 0,Z O 0,Z O 0,Z O 0,Z O 0,Z O 0,Z O 0,Z O 0,Z O 0,Z O 0,Z O 0,Z O 0] 36)) (fun k hk=>Below.heap_alloc _ _ k hk)).setCells HZ2.out (by decide) (by decide) 0 [Zl ta tn tc,Z O 150,Z O 240,Z O 20,Z O 33,Z O 10,Z O 20,Z O 0,Z O 0,Z O 0,Z O 0,Z O 400,Z O 495])
 generalize(w2.alloc (.cells #[Zl none 0 0,Z O 0,Z O 0,Z O 0,Z O 0,Z O 0,Z O 0,Z O 0,Z O 0,Z O 0,Z O 0,Z O 0,Z O 0] 36)).setCells w2.heap.size 0 [Zl ta tn tc,Z O 150,Z O 240,Z O 20,Z O 33,Z O 10,Z O 20,Z O 0,Z O 0,Z O 0,Z O 0,Z O 400,Z O 495]=w3 at HZ3 HB3 HST3 ⊢
 obtain⟨g3,hg3⟩:∃ g,g=w2.heap.size:=⟨_,rfl⟩
 rw [← hg3]at HZ3 ⊢
 clear HZ2 HST HB2 HB1 HK1 hg3
 go_upto_region 3 with(first
  | (go_at_call 39;refine(example_calls _).mono ?_;rintro e w4 ⟨g4,rfl,hb4,hk4⟩;have HB4:=Zh (HB3.out.trans (hb4.mono HB3.out.size));have HK4:=Zh hk4;have HZ4:=Zh (HZ3.out.below hb4);have HST4:=Zh (HST3.out.below hb4);clear hb4 hk4)
  | (go_at_call 30;refine(moist_calls 180 14 _ exDeeds 7 _ (ex_held HK4.out) ex_ok ex_sizes (by decide) (by decide) ex_seven cB exB ex_b (by decide)).mono ?_;rintro e w5 ⟨rfl,hb5⟩;rw [show moistLo exB=500 from rfl,show moistHi exB=646 from rfl];have HB5:=Zh (HB4.out.trans (hb5.mono HB4.out.size));have HZ5:=Zh (HZ4.out.below hb5);have HST5:=Zh (HST4.out.below hb5);clear hb5))
 have HK6:=Zh (Blk.new w5 32 #[Z O 500,Z O 646])
 have HB6:=Zh (HB5.out.alloc HB5.out.size (.cells #[Z O 500,Z O 646] 32))
 have HZ6:=Zh (HZ5.out.alloc (.cells #[Z O 500,Z O 646] 32))
 have HST6:=Zh (HST5.out.same (w':=w5.alloc (.cells #[Z O 500,Z O 646] 32)) (fun k hk=>Below.heap_alloc _ _ k hk))
 try simp only [Act.put]
 generalize World.alloc _ _=w6 at HK6 HB6 HZ6 HST6 ⊢
 obtain⟨g5,hg5⟩:∃ g,g=w5.heap.size:=⟨_,rfl⟩
 rw [← hg5]at HK6 ⊢
 clear hg5 HZ5 HST5 HB5 HZ4 HST4 HB4 HK4 HZ3 HST3 HB3
 have htn:tn=2:=row_len HST6.out.things
 subst htn
 have q0:=Zg (HZ6.out.at 0 (Zl ta 2 tc) rfl)
 have q1:=Zg (HK6.out.at 0 (Z O 500) rfl)
 have q2:=Zg (HK6.out.at 1 (Z O 646) rfl)
 have k0:=regrown_calls (W:=w6) (fun w=>bounds_calls 500 646 w)
 refine wp_region_quiet_below (by kernel_rfl) (by kernel_rfl) ?_
 repeat(go_big_quiet_step (with_reducible exact k0 _ _))
 refine wpQuiet_nil ?_
 intro w7 hw'
 have hb8:Below w6.heap.size w6 w7:=by obtain⟨⟨dq,osq⟩,hw''⟩:=hw';rw [hw''];exact Zk w6 dq osq
 clear hw' q0 q1 q2 k0
 have HB7:=Zh (HB6.out.trans (hb8.mono HB6.out.size))
 have HZ7:=Zh (HZ6.out.below hb8)
 have HST7:=Zh (HST6.out.below hb8)
 clear hb8 HB6 HZ6 HST6 HK6
 obtain⟨gt,cap,htv,hgt,hcA⟩:=HST7.out.row (k:=0) (p:=(exA,va)) rfl
 obtain⟨gt',cap',htv',hgt',hcB⟩:=HST7.out.row (k:=1) (p:=(exB,vb)) rfl
 injection htv with ea en ec
 injection htv' with ea' en' ec'
 subst ea ec
 injection ea' with ea''
 injection ea'' with e3
 subst e3
 have HCA:=Zh hcA;have HCB:=Zh hcB
 clear hcA hcB en en' hgt' ec'
 go_upto_region 5 with(fail)
 have q0:=Zg (HZ7.out.at 0 (Zl (some ⟨gt,0,none⟩) 2 tc) rfl)
 have q1:=Zg (show w7.cell? ⟨gt,1,none⟩=some (Z O 713)from HCA.out 1 (by decide))
 have q2:=Zg (show w7.cell? ⟨gt,2,none⟩=some (Z O 801)from HCA.out 2 (by decide))
 have q3:=Zg (show w7.cell? ⟨gt,9,none⟩=some (Z O 237)from HCB.out 1 (by decide))
 have q4:=Zg (show w7.cell? ⟨gt,10,none⟩=some (Z O 260)from HCB.out 2 (by decide))
 have q5:=Zg (show w7.cell? ⟨gt,11,none⟩=some (Z O 130)from HCB.out 3 (by decide))
 have q6:=Zg (show w7.cell? ⟨gt,12,none⟩=some (Z O 153)from HCB.out 4 (by decide))
 have q7:=Zg (HZ7.out.at 5 (Z O 10) rfl)
 have q8:=Zg (HZ7.out.at 6 (Z O 20) rfl)
 have k1:=regrown_calls (W:=w7) (fun w=>bounds_calls 713 801 w)
 have k2:=regrown_calls (W:=w7) (fun w=>bounds_calls 237 260 w)
 have k3:=regrown_calls (W:=w7) (fun w=>bounds_calls 130 153 w)
 have k4:=regrown_calls (W:=w7) (fun w=>bounds_calls 10 20 w)
 refine wp_region_quiet_below (by kernel_rfl) (by kernel_rfl) ?_
 repeat(go_big_quiet_step (first|(with_reducible exact k1 _ _)|(with_reducible exact k2 _ _)|(with_reducible exact k3 _ _)|(with_reducible exact k4 _ _)))
 refine wpQuiet_nil ?_
 intro w8 hw'
 have hb8:Below w7.heap.size w7 w8:=by obtain⟨⟨dq,osq⟩,hw''⟩:=hw';rw [hw''];exact Zk w7 dq osq
 clear hw' q0 q1 q2 q3 q4 q5 q6 q7 q8 k1 k2 k3 k4
 go_wp2
 go_ret
 exact⟨rfl,HB7.out.trans (hb8.mono HB7.out.size)⟩
end Go.Proofs.Ytgekekhbhkgekaa
namespace Go.Proofs.Ytgekekhbhkgekaa
open Go.RowKit
open _root_.Go.Value renaming slice → Zl
def flat {α:Type}(enc:α→List Value)(xs:List α):List Value:=(xs.map enc).flatten
section
variable {α:Type} {k:Nat} {enc:α→List Value}
theorem flat_nil:flat enc ([]:List α) = []:=rfl
theorem flat_cons (x:α)(xs:List α):flat enc (x :: xs)=enc x++flat enc xs:=by simp [flat]
theorem flat_append (xs ys:List α):flat enc (xs++ys)=flat enc xs++flat enc ys:=by simp [flat]
theorem flat_length (hk:∀ a,(enc a).length=k):∀ xs:List α,(flat enc xs).length=xs.length*k
 | [] => by simp [flat]
 | x :: r=>by rw [flat_cons,List.length_append,hk,flat_length hk r,List.length_cons,Nat.succ_mul];omega
end
section
variable {α:Type} [Inhabited α] {k:Nat} {enc:α→List Value}
theorem flat_get (hk:∀ a,(enc a).length=k):∀(xs:List α) (j i:Nat),j<xs.length→i<k→(flat enc xs)[j*k+i]? = (enc xs[j]!)[i]?
 | [],j,i,hj,_=>by cases hj
 | x :: r,0,i,_,hi=>by
   rw [flat_cons,Nat.zero_mul,Nat.zero_add,List.getElem?_append_left (by rw [hk];exact hi)]
   rfl
 | x :: r,j+1,i,hj,hi=>by
   have hj':j<r.length:=by simpa using hj
   have e:(j+1)*k+i-k=j*k+i:=by rw [Nat.succ_mul];omega
   rw [flat_cons,List.getElem?_append_right (by rw [hk,Nat.succ_mul];omega),hk,e,flat_get hk r j i hj' hi]
   rfl
theorem flat_split (hk:∀ a,(enc a).length=k)(h0:0<k)(xs:List α)(m:Nat)(u:Value)(h:(flat enc xs)[m]? = some u):∃ j i,m=j*k+i∧j<xs.length∧i<k∧(enc xs[j]!)[i]? = some u:=by
 have hm:m<xs.length*k:=by rw [← flat_length hk];exact(List.getElem?_eq_some_iff.1 h).1
 have e:m=m/k*k+m % k:=by rw [Nat.mul_comm];exact(Nat.div_add_mod m k).symm
 have hj:m/k<xs.length:=(Nat.div_lt_iff_lt_mul h0).2 hm
 refine⟨m/k,m % k,e,hj,Nat.mod_lt _ h0,?_⟩
 rw [← flat_get hk xs (m/k) (m % k) hj (Nat.mod_lt _ h0),← e]
 exact h
theorem Held.flat {B:Nat}{w:World}{b off n c:Nat}{xs:List α}(hk:∀ a,(enc a).length=k)(h0:0<k)(h:Held B w k enc (Zl (some ⟨b,off,none⟩) n c) xs)(m:Nat)(u:Value)(hu:(flat enc xs)[m]? = some u):w.cell? ((⟨b,off,none⟩:Addr).add m)=some u:=by
 obtain⟨j,i,rfl,hj,hi,he⟩:=flat_split hk h0 xs m u hu
 rcases h with⟨_,h2⟩ | ⟨b',off',c',h1,_,_,hc⟩
 ·rw [h2]at hj;cases hj
 ·cases h1
  have:=hc j hj i u he
  rw [Addr.add_mid,← Nat.add_assoc]
  exact this
theorem Held.store {w:World}{g n cap:Nat}{xs:List α}(hk:∀ a,(enc a).length=k)(h:Held w.heap.size w k enc (Zl (some ⟨g,0,none⟩) n cap) xs)(K:Nat)(hK:K<xs.length)(x:α)(ht:w.there g (K*k) k) :
  Held (w.setCells g (K*k) (enc x)).heap.size (w.setCells g (K*k) (enc x)) k enc (Zl (some ⟨g,0,none⟩) n cap) (xs.set K x):=by
 rcases h with⟨_,h2⟩ | ⟨b',off',c',h1,hb,hl,hc⟩
 ·rw [h2]at hK;cases hK
 ·cases h1
  refine .inr ⟨g,0,cap,by rw [List.length_set],by rw [size_setCells];exact hb,by rw [List.length_set];exact hl,fun j hj i u hu=>?_⟩
  rw [List.length_set]at hj
  by_cases hjK:j=K
  ·subst hjK
   have e:(xs.set j x)[j]! = x:=by rw [getElem!_pos _ j (by rw [List.length_set];exact hj),List.getElem_set_self]
   rw [e]at hu
   have:=World.rangeAt_setCells_same w g (j*k) (enc x) (by rw [hk];exact ht) i u hu
   rw [Nat.zero_add]
   exact this
  ·have e:(xs.set K x)[j]! = xs[j]! := by
    rw [getElem!_pos _ j (by rw [List.length_set];exact hj),getElem!_pos xs j hj,List.getElem_set_ne (fun h=>hjK h.symm)]
   rw [e]at hu
   have hr:w.rangeAt g (j*k) (enc xs[j]!):=fun i' v' hv'=>by have:=hc j hj i' v' hv';rwa [Nat.zero_add]at this
   have hap:j*k+(enc xs[j]!).length≤K*k∨K*k+(enc x).length≤j*k:=by
    rw [hk,hk]
    rcases Nat.lt_or_gt_of_ne hjK with h | h
    ·left;have:=Nat.mul_le_mul_right k (show j+1≤K from h);rw [Nat.succ_mul]at this;omega
    ·right;have:=Nat.mul_le_mul_right k (show K+1≤j from h);rw [Nat.succ_mul]at this;omega
   have:=World.rangeAt_setCells_apart hr g (K*k) (enc x) (.inr hap) i u hu
   rw [Nat.zero_add]
   exact this
end
section
open Yd
end
end Go.Proofs.Ytgekekhbhkgekaa
namespace Go.Proofs.Ytgekekhbhkgekaa
open Go Go.RowKit Go.Shelf Yd
open _root_.Go.Value renaming slice → Zl
theorem Held.take {α:Type} [Inhabited α] {B:Nat}{w:World}{k:Nat}{enc:α→List Value}{a:Option Addr}{n c:Nat}{xs:List α}(h:Held B w k enc (Zl a n c) xs)(m:Nat)(hm:m≤n):Held B w k enc (Zl a m c) (xs.take m):=by
 rcases h with⟨⟨a',c',hv⟩,rfl⟩ | ⟨b,off,c',hv,hB,hl,hc⟩
 ·injection hv with e1 e2 e3
  subst e1 e2 e3
  obtain rfl:m=0:=by omega
  exact .inl ⟨⟨_,_,rfl⟩,rfl⟩
 ·injection hv with e1 e2 e3
  subst e1 e2 e3
  have hlt:(xs.take m).length=m:=by rw [List.length_take];omega
  refine .inr ⟨b,off,c,by rw [hlt],hB,⟨by omega,by omega,hl.2.2⟩,fun j hj i u hu=>?_⟩
  have hj2:j<xs.length:=by omega
  refine hc j hj2 i u ?_
  rw [← hu,getElem!_pos xs j hj2,getElem!_pos (xs.take m) j hj,List.getElem_take]
theorem great_few {bef aft:Int}{ds:List (Deed Code)}(hg:greatB ds=false)(h:errYard bef aft ds=0):ds.length≤12:=by
 obtain⟨_,_,h3,_⟩:=errYard_ok h
 unfold greatB at hg
 simp only [Bool.or_eq_false_iff,decide_eq_false_iff_not]at hg
 omega
theorem Blk.belowAt {w w':World}{B g:Nat}{t:TypeId}{cs:Array Value}(h:Blk w g t cs)(hb:Below B w w')(hg:g<B):Blk w' g t cs:=(hb.block g hg).trans h



structure Locs (w0 W:World)(L:List (Nat × TypeId × List Value))(S:List (List SRow × Value)):Prop where
 low:Below w0.heap.size w0 W
 loc:∀ e ∈ L,Blk W e.1 e.2.1 e.2.2.toArray∧w0.heap.size≤e.1
 nodup:(L.map (·.1)).Nodup
 stands:∀ s ∈ S,Stands W s.1 s.2
 sep:∀ s ∈ S,∀ e ∈ L,s.2.ownBlock≠some e.1∧∀ p ∈ s.1,p.2.ownBlock≠some e.1
section
variable {w0 W W':World} {L L':List (Nat × TypeId × List Value)} {S S':List (List SRow × Value)}
theorem Locs.start (w:World):Locs w w [] []:=⟨Below.refl _ _,by simp,.nil,by simp,by simp⟩
theorem Locs.below (h:Locs w0 W L S)(hb:Below W.heap.size W W'):Locs w0 W' L S :=
 ⟨h.low.trans (hb.mono h.low.size),fun e he=>⟨(h.loc e he).1.below hb,(h.loc e he).2⟩,h.nodup,fun s hs=>(h.stands s hs).below hb,h.sep⟩
theorem Locs.drew (h:Locs w0 W L S):Locs w0 W.drew L S:=h.below ((Below.refl W.heap.size W).drew)
theorem mem_at {α:Type}{l:List α}{i:Nat}{a:α}(h:l[i]? = some a):a ∈ l:=List.mem_of_getElem? h
theorem Locs.blk (h:Locs w0 W L S)(i:Nat){g:Nat}{t:TypeId}{cs:List Value}(hi:L[i]? = some (g,t,cs)):Blk W g t cs.toArray:=(h.loc _ (mem_at hi)).1
theorem Locs.at (h:Locs w0 W L S)(i o:Nat){g:Nat}{t:TypeId}{cs:List Value}{v:Value}(hi:L[i]? = some (g,t,cs))(ho:cs[o]? = some v):W.cell? ⟨g,o,none⟩=some v :=
 (h.blk i hi).at o v (by simpa using ho)
theorem Locs.far (h:Locs w0 W L S)(i:Nat){g:Nat}{t:TypeId}{cs:List Value}(hi:L[i]? = some (g,t,cs)):w0.heap.size≤g∧g<W.heap.size:=⟨(h.loc _ (mem_at hi)).2,(h.blk i hi).lt⟩
theorem Locs.stood (h:Locs w0 W L S)(i:Nat){rows:List SRow}{tv:Value}(hi:S[i]? = some (rows,tv)):Stands W rows tv:=h.stands _ (mem_at hi)
theorem Locs.atB (h:Locs w0 W L S)(hb:Below W.heap.size W W')(i o:Nat){g:Nat}{t:TypeId}{cs:List Value}{v:Value}(hi:L[i]? = some (g,t,cs))(ho:cs[o]? = some v):W'.cell? ⟨g,o,none⟩=some v :=
 (h.below hb).at i o hi ho
theorem Locs.rangeB (h:Locs w0 W L S)(hb:Below W.heap.size W W')(i o:Nat){g:Nat}{t:TypeId}{cs:List Value}(vs:List Value)(hi:L[i]? = some (g,t,cs))(e:(cs.drop o).take vs.length=vs):W'.rangeAt g o vs :=
 ((h.below hb).blk i hi).range o vs (by simpa using e)
theorem Locs.alloc (h:Locs w0 W L S)(t:TypeId)(cs:List Value){g:Nat}(hg:W.heap.size=g):Locs w0 (W.alloc (.cells cs.toArray t)) (L++[(g,t,cs)]) S:=by
 subst hg
 refine⟨h.low.alloc h.low.size _,fun e he=>?_,?_,fun s hs=>(h.stands s hs).same (fun k hk=>Below.heap_alloc _ _ k hk),fun s hs e he=>?_⟩
 ·rcases List.mem_append.1 he with h1 | h1
  ·exact⟨(h.loc e h1).1.alloc _,(h.loc e h1).2⟩
  ·rw [List.mem_singleton.1 h1];exact⟨Blk.new W t _,h.low.size⟩
 ·rw [List.map_append,List.nodup_append]
  refine⟨h.nodup,by simp,fun a ha b hb=>?_⟩
  obtain⟨x,hx,rfl⟩:=List.mem_map.1 ha
  have:=(h.loc x hx).1.lt
  simp at hb
  omega
 ·rcases List.mem_append.1 he with h1 | h1
  ·exact h.sep s hs e h1
  ·rw [List.mem_singleton.1 h1]
   exact⟨fun e2=>absurd (row_lt (h.stands s hs).things e2) (Nat.lt_irrefl _),fun p hp e2=>absurd (row_lt ((h.stands s hs).froms p hp) e2) (Nat.lt_irrefl _)⟩
theorem Locs.perm (h:Locs w0 W L S)(hp:L'.Perm L):Locs w0 W L' S :=
 ⟨h.low,fun e he=>h.loc e (hp.mem_iff.1 he),(hp.map _).nodup_iff.2 h.nodup,h.stands,fun s hs e he=>h.sep s hs e (hp.mem_iff.1 he)⟩
theorem Locs.fewer (h:Locs w0 W L S)(hl:L'.Sublist L)(hs:S'.Sublist S):Locs w0 W L' S' :=
 ⟨h.low,fun e he=>h.loc e (hl.subset he),h.nodup.sublist (hl.map _),fun s h1=>h.stands s (hs.subset h1),fun s h1 e he=>h.sep s (hs.subset h1) e (hl.subset he)⟩
theorem Locs.tail (h:Locs w0 W (L++L') S):Locs w0 W L S:=h.fewer (List.sublist_append_left _ _) (List.Sublist.refl _)
theorem Locs.stand (h:Locs w0 W L S)(hb:Below W.heap.size W W'){rows:List SRow}{tv:Value}(hs:Stands W' rows tv)(ht:(L.all fun e=>decide (e.2.1≠49∧e.2.1≠3))=true):Locs w0 W' L (S++[(rows,tv)]):=by
 have h':=h.below hb
 refine⟨h'.low,h'.loc,h'.nodup,fun s h1=>?_,fun s h1 e he=>?_⟩
 ·rcases List.mem_append.1 h1 with h2 | h2
  ·exact h'.stands s h2
  ·rw [List.mem_singleton.1 h2];exact hs
 ·rcases List.mem_append.1 h1 with h2 | h2
  ·exact h'.sep s h2 e he
  ·rw [List.mem_singleton.1 h2]
   have h3:=List.all_eq_true.1 ht e he
   simp only [decide_eq_true_eq]at h3
   exact⟨((h'.loc e he).1.notRow hs.things h3.1).symm,fun p hp=>((h'.loc e he).1.notRow (hs.froms p hp) h3.2).symm⟩
theorem Locs.setLoc (h:Locs w0 W L S)(i:Nat){g:Nat}{t:TypeId}(pre old post vs:List Value)(hi:L[i]? = some (g,t,pre++old++post))(hl:old.length=vs.length):Locs w0 (W.setCells g pre.length vs) (L.set i (g,t,pre++vs++post)) S:=by
 obtain⟨hb,hg⟩:=h.loc _ (mem_at hi)
 have hil:i<L.length:=(List.getElem?_eq_some_iff.1 hi).1
 have hs:∀ k,k≠g→(W.setCells g pre.length vs).heap[k]? = W.heap[k]? := fun k hk=>heap_setCells W g hk vs _
 have hnd:∀(l:List (Nat × TypeId × List Value)) (i j:Nat) (a b:Nat × TypeId × List Value),(l.map (·.1)).Nodup→l[i]? = some a→l[j]? = some b→a.1=b.1→i=j:=by
  intro l i j a b hn ha hb e
  have hil:=(List.getElem?_eq_some_iff.1 ha).1
  have hjl:=(List.getElem?_eq_some_iff.1 hb).1
  have hn:=List.pairwise_iff_getElem.1 hn
  have e1:(l.map (·.1))[i]'(by simpa using hil)=a.1:=by rw [List.getElem_map,(List.getElem?_eq_some_iff.1 ha).2]
  have e2:(l.map (·.1))[j]'(by simpa using hjl)=b.1:=by rw [List.getElem_map,(List.getElem?_eq_some_iff.1 hb).2]
  rcases Nat.lt_trichotomy i j with h3 | h3 | h3
  ·exact absurd (e1.trans (e.trans e2.symm)) (hn i j (by simpa using hil) (by simpa using hjl) h3)
  ·exact h3
  ·exact absurd (e2.trans (e.symm.trans e1.symm)) (hn j i (by simpa using hjl) (by simpa using hil) h3)
 have hm:∀ e ∈ L.set i (g,t,pre++vs++post),e=(g,t,pre++vs++post)∨(e ∈ L∧e.1≠g):=fun e he=>by
  obtain⟨j,hj⟩:=List.mem_iff_getElem?.1 he
  by_cases e2:j=i
  ·subst e2
   rw [List.getElem?_set_self hil]at hj
   cases hj
   exact .inl rfl
  ·rw [List.getElem?_set_ne (Ne.symm e2)]at hj
   exact .inr ⟨mem_at hj,fun e3=>e2 (hnd L j i _ _ h.nodup hj hi e3)⟩
 refine⟨below_setCells h.low hg vs _,fun e he=>?_,?_,fun s h1=>?_,fun s h1 e he=>?_⟩
 ·rcases hm e he with rfl | ⟨h1,h2⟩
  ·exact⟨hb.storedMid pre old post vs hl,hg⟩
  ·exact⟨(h.loc e h1).1.apart h2 _ _,(h.loc e h1).2⟩
 ·have:(L.set i (g,t,pre++vs++post)).map (·.1)=L.map (·.1):=by
   rw [List.map_set]
   refine List.ext_getElem? fun j=>?_
   by_cases e:i=j
   ·subst e
    rw [List.getElem?_set_self (by simpa using hil),List.getElem?_map,hi]
    rfl
   ·rw [List.getElem?_set_ne e]
  rw [this]
  exact h.nodup
 ·have h2:=h.sep s h1 _ (mem_at hi)
  have h3:=h.stands s h1
  exact⟨row_same h3.things (fun k hk=>hs k (fun e=>h2.1 (by rw [hk,e]))),fun p hp=>row_same (h3.froms p hp) (fun k hk=>hs k (fun e=>h2.2 p hp (by rw [hk,e]))),h3.fromsLen,h3.codes,h3.sizes,h3.few⟩
 ·rcases hm e he with rfl | ⟨h2,_⟩
  ·have h2:=h.sep s h1 _ (mem_at hi)
   exact h2
  ·exact h.sep s h1 e h2
theorem Locs.put (h:Locs w0 W L S)(i o:Nat)(vs:List Value)(hi:decide (i<L.length∧o+vs.length≤(L.getD i (0,0,[])).2.2.length)=true):Locs w0 (W.setCells (L.getD i (0,0,[])).1 o vs) (L.set i ((L.getD i (0,0,[])).1,(L.getD i (0,0,[])).2.1,(L.getD i (0,0,[])).2.2.take o++vs++(L.getD i (0,0,[])).2.2.drop (o+vs.length))) S:=by
 obtain⟨hi,hl⟩:=of_decide_eq_true hi
 have e0:L[i]? = some (L.getD i (0,0,[])):=by rw [List.getD_eq_getElem?_getD,List.getElem?_eq_getElem hi];rfl
 generalize L.getD i (0,0,[])=x at e0 hl ⊢
 obtain⟨g,t,cs⟩:=x
 have e:L[i]? = some (g,t,cs.take o++(cs.drop o).take vs.length++cs.drop (o+vs.length)):=by
  rw [e0,List.append_assoc,← List.drop_drop,List.take_append_drop,List.take_append_drop]
 have:=h.setLoc i _ _ _ vs e (by rw [List.length_take,List.length_drop];simp only at hl;omega)
 rwa [List.length_take,Nat.min_eq_left (by simp only at hl;omega)]at this
theorem Locs.setLoc1 (h:Locs w0 W L S)(i:Nat){g:Nat}{t:TypeId}(pre post:List Value)(old v:Value)(o:Nat)(ho:pre.length=o)(hi:L[i]? = some (g,t,pre++[old]++post)):Locs w0 (W.setCell ⟨g,o,none⟩ v) (L.set i (g,t,pre++[v]++post)) S:=by
 subst ho
 exact h.setLoc i pre [old] post [v] hi rfl
theorem Locs.there (h:Locs w0 W L S)(i:Nat){g:Nat}{t:TypeId}{cs:List Value}{o n:Nat}(hi:L[i]? = some (g,t,cs))(hn:o+n≤cs.length):W.there g o n:=(h.blk i hi).there (by simpa using hn)
theorem Locs.frozen (h:Locs w0 W L S)(i:Nat){g:Nat}{t:TypeId}{cs:List Value}(hi:L[i]? = some (g,t,cs))(o:Nat):W.frozen? ⟨g,o,none⟩=false:=(h.blk i hi).frozen o
end
def LawDone (w:World)(e:Ending)(w':World):Prop:=e=.returned (.bool true)∧Below w.heap.size w w'
theorem lawDone {w w':World}(h:Below w.heap.size w w'):LawDone w (.returned (.bool true)) w':=⟨rfl,h⟩
end Go.Proofs.Ytgekekhbhkgekaa
