/- Follow of any yard and any number of deeds: the program's and the document's. -/
import Derived.Test.YtgekekhbhkgekaaRYRefFollow
namespace Go.Proofs.Ytgekekhbhkgekaa
open Go Go.RowKit Go.Shelf Yd
open Go.Value renaming int→Z,slice→Zl
open Go.IntKind renaming i64→O
open Go.Lib renaming hid→Zh
open _root_.Nat renaming le_of_ble_eq_true→Zn
open Go renaming wpList_store_mid→Zw
set_option maxRecDepth 100000
set_option maxHeartbeats 16000000
set_option linter.unusedSimpArgs false
theorem sizes_max {ds:List (Deed Code)}(h:∀ d ∈ ds,d.stack.size≤maxLen∧d.other.size≤maxLen):∀ d ∈ ds,d.stack.size≤9223372036854775807∧d.other.size≤9223372036854775807:=by
 unfold maxLen at h
 exact h
def Refused (w:World)(x:Int)(e:Ending)(w':World):Prop:=e=.returned (.tuple #[.agg #[Zl none 0 0,Z O 0,Z O 0,Z O 0,Z O 0,Z O 0,Z O 0,Z O 0,Z O 0,Z O 0,Z O 0,Z O 0,Z O 0],Z O 0,Z O 0,Z O x])∧Below w.heap.size w w'
theorem follow_refused (bef aft:Int)(v:Value)(ds:List (Deed Code))(n:Int)(w:World)(h:Held w.heap.size w 8 deedCells v ds)(hsz:∀ d ∈ ds,d.stack.size≤maxLen∧d.other.size≤maxLen)(he:errFirst bef aft ds n≠0) :
  Calls Try.prog 16 #[.agg #[Z O bef,Z O aft,v],Z O n] w (Refused w (errFirst bef aft ds n)):=by
 have HC:=Zh (fun(W:World) (hW:Below w.heap.size w W)=>checkFirst_any bef aft v ds n W ((h.below hW).mono hW.size) (sizes_max hsz))
 obtain⟨a,c,rfl,hmax,hcs⟩:=h.slice
 obtain⟨m,hm⟩:∃ m,m=ds.length:=⟨_,rfl⟩
 have HM:=Zh hm
 rw [← hm]at HC ⊢
 clear h hsz hm hcs hmax
 have HL0:=Zh (p:=Locs w ((w.alloc (.cells #[Z O bef,Z O aft,Zl a m c] 24)).alloc (.cells #[Zl none 0 0,Z O 0,Z O 0,Z O 0,Z O 0,Z O 0,Z O 0,Z O 0,Z O 0,Z O 0,Z O 0,Z O 0,Z O 0] 36)) [(w.heap.size,24,[Z O bef,Z O aft,Zl a m c]),(w.heap.size+1,36,[Zl none 0 0,Z O 0,Z O 0,Z O 0,Z O 0,Z O 0,Z O 0,Z O 0,Z O 0,Z O 0,Z O 0,Z O 0,Z O 0])] []) (((Locs.start w).alloc 24 [Z O bef,Z O aft,Zl a m c] rfl).alloc 36 [Zl none 0 0,Z O 0,Z O 0,Z O 0,Z O 0,Z O 0,Z O 0,Z O 0,Z O 0,Z O 0,Z O 0,Z O 0,Z O 0] (World.size_alloc _ _))
 obtain⟨x,hx⟩:∃ x,x=errFirst bef aft ds n:=⟨_,rfl⟩
 have HX:=Zh hx.symm
 have d1:(x == 0)=false:=by rw [hx];simpa using he
 have d2:(x != 0)=true:=by rw [hx];simpa using he
 rw [← hx]at HC
 clear hx he
 go_enter Try.func16,Try.ntmps16
 go_wp2_with (first
  | (go_at_call 40;refine(HC.out _ HL0.out.low).mono ?_;rintro e w1 ⟨rfl,hb1⟩;have HL1:=Zh (HL0.out.below hb1);clear hb1)
  | ((with_reducible refine at_store 36 (.tmp 4) (.tmp 17) ?_);go_must (refine Zw rfl 36 (.tmp 4) (.tmp 17) rfl (w.heap.size+1) 0 #[Zl none 0 0,Z O 0,Z O 0,Z O 0,Z O 0,Z O 0,Z O 0,Z O 0,Z O 0,Z O 0,Z O 0,Z O 0,Z O 0] rfl rfl (HL1.out.there 1 (o:=0) (n:=13) rfl (Zn rfl)) size_standing (by simp [Value.oneCell']) ?_)))
 have HLf:=Zh (p:=Locs w (w1.setCells (w.heap.size+1) 0 [Zl none 0 0,Z O 0,Z O 0,Z O 0,Z O 0,Z O 0,Z O 0,Z O 0,Z O 0,Z O 0,Z O 0,Z O 0,Z O 0]) [(w.heap.size,24,[Z O bef,Z O aft,Zl a m c]),(w.heap.size+1,36,[Zl none 0 0,Z O 0,Z O 0,Z O 0,Z O 0,Z O 0,Z O 0,Z O 0,Z O 0,Z O 0,Z O 0,Z O 0,Z O 0])] []) (HL1.out.put 1 0 _ rfl)
 have r0:=HLf.out.at 1 0 (v:=Zl none 0 0) rfl rfl
 have r1:=HLf.out.at 1 1 (v:=Z O 0) rfl rfl
 have r2:=HLf.out.at 1 2 (v:=Z O 0) rfl rfl
 have r3:=HLf.out.at 1 3 (v:=Z O 0) rfl rfl
 have r4:=HLf.out.at 1 4 (v:=Z O 0) rfl rfl
 have r5:=HLf.out.at 1 5 (v:=Z O 0) rfl rfl
 have r6:=HLf.out.at 1 6 (v:=Z O 0) rfl rfl
 have r7:=HLf.out.at 1 7 (v:=Z O 0) rfl rfl
 have r8:=HLf.out.at 1 8 (v:=Z O 0) rfl rfl
 have r9:=HLf.out.at 1 9 (v:=Z O 0) rfl rfl
 have r10:=HLf.out.at 1 10 (v:=Z O 0) rfl rfl
 have r11:=HLf.out.at 1 11 (v:=Z O 0) rfl rfl
 have r12:=HLf.out.at 1 12 (v:=Z O 0) rfl rfl
 refine bodyPost_ret (v:=.tuple #[.agg #[Zl none 0 0,Z O 0,Z O 0,Z O 0,Z O 0,Z O 0,Z O 0,Z O 0,Z O 0,Z O 0,Z O 0,Z O 0,Z O 0],Z O 0,Z O 0,Z O x]) (by simp [results,Try.results16,go_sem,r0,r1,r2,r3,r4,r5,r6,r7,r8,r9,r10,r11,r12]) rfl ?_
 exact⟨by rw [HX.out],HLf.out.low⟩
theorem rfollow_refused (bef aft:Int)(v:Value)(ds:List (Deed Code))(n:Int)(w:World)(h:Held w.heap.size w 8 deedCells v ds)(he:errFirst bef aft ds n≠0) :
  Calls Try.prog 28 #[.agg #[Z O bef,Z O aft,v],Z O n] w (Refused w (errFirst bef aft ds n)):=by
 have HC:=Zh (fun(W:World) (hW:Below w.heap.size w W)=>refYard_calls bef aft v ds W ((h.below hW).mono hW.size))
 obtain⟨a,c,rfl,hmax,hcs⟩:=h.slice
 obtain⟨m,hm⟩:∃ m,m=ds.length:=⟨_,rfl⟩
 have HM:=Zh hm
 rw [← hm]at HC ⊢
 clear h hm hcs hmax
 have HL0:=Zh (p:=Locs w ((w.alloc (.cells #[Z O bef,Z O aft,Zl a m c] 24)).alloc (.cells #[Zl none 0 0,Z O 0,Z O 0,Z O 0,Z O 0,Z O 0,Z O 0,Z O 0,Z O 0,Z O 0,Z O 0,Z O 0,Z O 0] 36)) [(w.heap.size,24,[Z O bef,Z O aft,Zl a m c]),(w.heap.size+1,36,[Zl none 0 0,Z O 0,Z O 0,Z O 0,Z O 0,Z O 0,Z O 0,Z O 0,Z O 0,Z O 0,Z O 0,Z O 0,Z O 0])] []) (((Locs.start w).alloc 24 [Z O bef,Z O aft,Zl a m c] rfl).alloc 36 [Zl none 0 0,Z O 0,Z O 0,Z O 0,Z O 0,Z O 0,Z O 0,Z O 0,Z O 0,Z O 0,Z O 0,Z O 0,Z O 0] (World.size_alloc _ _))
 obtain⟨x,hx⟩:∃ x,x=errFirst bef aft ds n:=⟨_,rfl⟩
 have HX:=Zh hx.symm
 by_cases hc:errYard bef aft ds=0
 ·skip
  rw [hc]at HC
  have hIN:inB n 0 (m:Int)=false:=by
   rcases Bool.eq_false_or_eq_true (inB n 0 (m:Int))with h1 | h1
   ·exact absurd (by unfold errFirst;rw [if_pos hc,← HM.out,if_pos h1]) he
   ·exact h1
  have HE:=Zh (p:=errFirst bef aft ds n=1) (by unfold errFirst;rw [if_pos hc,← HM.out,hIN];simp)
  clear hx he hc
  go_enter Try.func28,Try.ntmps28
  go_wp2_with (first
   | (go_at_call 14;refine(HC.out _ HL0.out.low).mono ?_;rintro e w1 ⟨rfl,hb1⟩;have HL1:=Zh (HL0.out.below hb1);have y2:=HL1.out.at 0 2 (v:=Zl a m c) rfl rfl;clear hb1)
   | (go_at_call 37;refine(in_calls _ _ _ _).mono ?_;rintro e w' ⟨rfl,rfl⟩)
   | ((with_reducible refine at_store 36 (.tmp 4) (.tmp 26) ?_);go_must (refine Zw rfl 36 (.tmp 4) (.tmp 26) rfl (w.heap.size+1) 0 #[Zl none 0 0,Z O 0,Z O 0,Z O 0,Z O 0,Z O 0,Z O 0,Z O 0,Z O 0,Z O 0,Z O 0,Z O 0,Z O 0] rfl rfl (HL1.out.there 1 (o:=0) (n:=13) rfl (Zn rfl)) size_standing (by simp [Value.oneCell']) ?_)))
  have HLf:=Zh (p:=Locs w (w1.setCells (w.heap.size+1) 0 [Zl none 0 0,Z O 0,Z O 0,Z O 0,Z O 0,Z O 0,Z O 0,Z O 0,Z O 0,Z O 0,Z O 0,Z O 0,Z O 0]) [(w.heap.size,24,[Z O bef,Z O aft,Zl a m c]),(w.heap.size+1,36,[Zl none 0 0,Z O 0,Z O 0,Z O 0,Z O 0,Z O 0,Z O 0,Z O 0,Z O 0,Z O 0,Z O 0,Z O 0,Z O 0])] []) (HL1.out.put 1 0 _ rfl)
  have r0:=HLf.out.at 1 0 (v:=Zl none 0 0) rfl rfl
  have r1:=HLf.out.at 1 1 (v:=Z O 0) rfl rfl
  have r2:=HLf.out.at 1 2 (v:=Z O 0) rfl rfl
  have r3:=HLf.out.at 1 3 (v:=Z O 0) rfl rfl
  have r4:=HLf.out.at 1 4 (v:=Z O 0) rfl rfl
  have r5:=HLf.out.at 1 5 (v:=Z O 0) rfl rfl
  have r6:=HLf.out.at 1 6 (v:=Z O 0) rfl rfl
  have r7:=HLf.out.at 1 7 (v:=Z O 0) rfl rfl
  have r8:=HLf.out.at 1 8 (v:=Z O 0) rfl rfl
  have r9:=HLf.out.at 1 9 (v:=Z O 0) rfl rfl
  have r10:=HLf.out.at 1 10 (v:=Z O 0) rfl rfl
  have r11:=HLf.out.at 1 11 (v:=Z O 0) rfl rfl
  have r12:=HLf.out.at 1 12 (v:=Z O 0) rfl rfl
  refine bodyPost_ret (v:=.tuple #[.agg #[Zl none 0 0,Z O 0,Z O 0,Z O 0,Z O 0,Z O 0,Z O 0,Z O 0,Z O 0,Z O 0,Z O 0,Z O 0,Z O 0],Z O 0,Z O 0,Z O 1]) (by simp [results,Try.results28,go_sem,r0,r1,r2,r3,r4,r5,r6,r7,r8,r9,r10,r11,r12]) rfl ?_
  exact⟨by rw [HE.out],HLf.out.low⟩
 ·skip
  have he2:x=errYard bef aft ds:=by rw [hx];unfold errFirst;rw [if_neg hc]
  rw [← he2]at HC hc
  have d1:(x == 0)=false:=by simpa using hc
  have d2:(x != 0)=true:=by simpa using hc
  clear hx he he2 hc
  go_enter Try.func28,Try.ntmps28
  go_wp2_with (first
   | (go_at_call 14;refine(HC.out _ HL0.out.low).mono ?_;rintro e w1 ⟨rfl,hb1⟩;have HL1:=Zh (HL0.out.below hb1);have y2:=HL1.out.at 0 2 (v:=Zl a m c) rfl rfl;clear hb1)
   | ((with_reducible refine at_store 36 (.tmp 4) (.tmp 26) ?_);go_must (refine Zw rfl 36 (.tmp 4) (.tmp 26) rfl (w.heap.size+1) 0 #[Zl none 0 0,Z O 0,Z O 0,Z O 0,Z O 0,Z O 0,Z O 0,Z O 0,Z O 0,Z O 0,Z O 0,Z O 0,Z O 0] rfl rfl (HL1.out.there 1 (o:=0) (n:=13) rfl (Zn rfl)) size_standing (by simp [Value.oneCell']) ?_)))
  have HLf:=Zh (p:=Locs w (w1.setCells (w.heap.size+1) 0 [Zl none 0 0,Z O 0,Z O 0,Z O 0,Z O 0,Z O 0,Z O 0,Z O 0,Z O 0,Z O 0,Z O 0,Z O 0,Z O 0]) [(w.heap.size,24,[Z O bef,Z O aft,Zl a m c]),(w.heap.size+1,36,[Zl none 0 0,Z O 0,Z O 0,Z O 0,Z O 0,Z O 0,Z O 0,Z O 0,Z O 0,Z O 0,Z O 0,Z O 0,Z O 0])] []) (HL1.out.put 1 0 _ rfl)
  have r0:=HLf.out.at 1 0 (v:=Zl none 0 0) rfl rfl
  have r1:=HLf.out.at 1 1 (v:=Z O 0) rfl rfl
  have r2:=HLf.out.at 1 2 (v:=Z O 0) rfl rfl
  have r3:=HLf.out.at 1 3 (v:=Z O 0) rfl rfl
  have r4:=HLf.out.at 1 4 (v:=Z O 0) rfl rfl
  have r5:=HLf.out.at 1 5 (v:=Z O 0) rfl rfl
  have r6:=HLf.out.at 1 6 (v:=Z O 0) rfl rfl
  have r7:=HLf.out.at 1 7 (v:=Z O 0) rfl rfl
  have r8:=HLf.out.at 1 8 (v:=Z O 0) rfl rfl
  have r9:=HLf.out.at 1 9 (v:=Z O 0) rfl rfl
  have r10:=HLf.out.at 1 10 (v:=Z O 0) rfl rfl
  have r11:=HLf.out.at 1 11 (v:=Z O 0) rfl rfl
  have r12:=HLf.out.at 1 12 (v:=Z O 0) rfl rfl
  refine bodyPost_ret (v:=.tuple #[.agg #[Zl none 0 0,Z O 0,Z O 0,Z O 0,Z O 0,Z O 0,Z O 0,Z O 0,Z O 0,Z O 0,Z O 0,Z O 0,Z O 0],Z O 0,Z O 0,Z O x]) (by simp [results,Try.results28,go_sem,r0,r1,r2,r3,r4,r5,r6,r7,r8,r9,r10,r11,r12]) rfl ?_
  exact⟨by rw [HX.out],HLf.out.low⟩
def followAny (bef aft:Int)(ds:List (Deed Code))(n:Int):St Code × Int × Int × Int :=
 if errFirst bef aft ds n=0 then((Yd.follow bef aft ds n.toNat).1,((Yd.follow bef aft ds n.toNat).2.1:Int),(Yd.follow bef aft ds n.toNat).2.2,0)else(.empty,0,0,errFirst bef aft ds n)
def FollowAny (w:World)(R:St Code × Int × Int × Int)(e:Ending)(w':World):Prop :=
 ∃(aB:List SRow) (tv:Value) (acc:Yd.Acc) (k f er:Int),R=(stOf aB acc,k,f,er)∧(∃ i≤12,SmallSt i (stOf aB acc))∧e=.returned (.tuple #[.agg (tv :: accCells acc).toArray,Z O k,Z O f,Z O er])∧Below w.heap.size w w'∧Stands w' aB tv
theorem errFirst_zero {bef aft:Int}{ds:List (Deed Code)}{n:Int}(h:errFirst bef aft ds n=0):errYard bef aft ds=0∧0≤n∧n≤ds.length:=by
 unfold errFirst at h
 split at h
 ·rename_i h0
  split at h
  ·rename_i h1
   exact⟨h0,inB_of h1⟩
  ·cases h
 ·rename_i h0
  exact absurd h h0
theorem any_done {w:World}{bef aft:Int}{ds:List (Deed Code)}{n:Int}{e:Ending}{w':World}(h0:errFirst bef aft ds n=0)(h12:n.toNat≤12)(h:FollowDone w bef aft ds n.toNat e w'):FollowAny w (followAny bef aft ds n) e w':=by
 obtain⟨aB,tv,acc,k,f,h1,h2,h3,h4,h5,h6⟩:=h
 refine⟨aB,tv,acc,k,f,0,?_,⟨k,Nat.le_trans h3 h12,h2⟩,h4,h5,h6⟩
 unfold followAny
 rw [if_pos h0,h1]
theorem any_refused {w:World}{bef aft:Int}{ds:List (Deed Code)}{n:Int}{e:Ending}{w':World}(h0:errFirst bef aft ds n≠0)(h:Refused w (errFirst bef aft ds n) e w'):FollowAny w (followAny bef aft ds n) e w':=by
 refine⟨[],Zl none 0 0,.zero,0,0,errFirst bef aft ds n,?_,⟨0,Nat.zero_le _,small_empty⟩,h.1,h.2,stands_none w'⟩
 unfold followAny
 rw [if_neg h0]
 rfl
theorem nat_few {bef aft:Int}{ds:List (Deed Code)}{n:Int}(hg:greatB ds=false)(h0:errFirst bef aft ds n=0):(n.toNat:Int)=n∧n.toNat≤ds.length∧n.toNat≤12:=by
 obtain⟨h1,h2,h3⟩:=errFirst_zero h0
 have:=great_few hg h1
 omega
theorem follow_any (bef aft:Int)(v:Value)(ds:List (Deed Code))(n:Int)(w:World)(h:Held w.heap.size w 8 deedCells v ds)(hsz:∀ d ∈ ds,d.stack.size≤maxLen∧d.other.size≤maxLen)(hg:greatB ds=false) :
  Calls Try.prog 16 #[.agg #[Z O bef,Z O aft,v],Z O n] w (FollowAny w (followAny bef aft ds n)):=by
 by_cases h0:errFirst bef aft ds n=0
 ·obtain⟨h1,h2,h3⟩:=nat_few hg h0
  have:=follow_calls bef aft v ds n.toNat w h (errFirst_zero h0).1 hsz h2 h3
  rw [h1]at this
  exact this.mono fun e w' hd=>any_done h0 h3 hd
 ·exact(follow_refused bef aft v ds n w h hsz h0).mono fun e w' hd=>any_refused h0 hd
theorem rfollow_any (bef aft:Int)(v:Value)(ds:List (Deed Code))(n:Int)(w:World)(h:Held w.heap.size w 8 deedCells v ds)(hsz:∀ d ∈ ds,d.stack.size≤maxLen∧d.other.size≤maxLen)(hg:greatB ds=false) :
  Calls Try.prog 28 #[.agg #[Z O bef,Z O aft,v],Z O n] w (FollowAny w (followAny bef aft ds n)):=by
 by_cases h0:errFirst bef aft ds n=0
 ·obtain⟨h1,h2,h3⟩:=nat_few hg h0
  have:=rfollow_calls bef aft v ds n.toNat w h (errFirst_zero h0).1 hsz h2 h3
  rw [h1]at this
  exact this.mono fun e w' hd=>any_done h0 h3 hd
 ·exact(rfollow_refused bef aft v ds n w h h0).mono fun e w' hd=>any_refused h0 hd
end Go.Proofs.Ytgekekhbhkgekaa
