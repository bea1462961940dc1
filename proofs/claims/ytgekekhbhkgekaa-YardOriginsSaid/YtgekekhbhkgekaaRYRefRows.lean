/- A row that grows by append beside the call's own blocks; plain facts that YardNarrow's walk uses. The document's without and both: rows of the call's own. -/
import Derived.Test.YtgekekhbhkgekaaRYLocs
import Derived.Test.YtgekekhbhkgekaaRYSameStanding
namespace Go.Proofs.Ytgekekhbhkgekaa
open Go Go.RowKit Go.Shelf Yd
open Go.Value renaming slice→Zl
structure Rowed (w0 W:World)(L:List (Nat × TypeId × List Value))(e:TypeId)(k:Nat)(v:Value)(n:Nat)(xs:List Value):Prop where
 own:W.ownsRow w0.heap.size e k v n xs
 sep:∀ x ∈ L,v.ownBlock≠some x.1
section
variable {w0 W W':World} {L L':List (Nat × TypeId × List Value)} {e:TypeId} {k n m:Nat} {v:Value} {xs ys:List Value}
theorem Rowed.nil (w0 W:World)(L:List (Nat × TypeId × List Value))(e:TypeId)(k:Nat):Rowed w0 W L e k (Zl none 0 0) 0 []:=⟨World.ownsRow_nil _ _ _ _,fun x _ h=>by cases h⟩
theorem Rowed.same (h:Rowed w0 W L e k v n xs)(hs:∀ g,v.ownBlock=some g→W'.heap[g]? = W.heap[g]?)(hL:∀ x ∈ L',v.ownBlock≠some x.1):Rowed w0 W' L' e k v n xs:=⟨row_same h.own hs,hL⟩
theorem Rowed.below (h:Rowed w0 W L e k v n xs)(hb:Below W.heap.size W W'):Rowed w0 W' L e k v n xs:=h.same (fun g hg=>hb.block g (row_lt h.own hg)) h.sep
theorem Rowed.alloc (h:Rowed w0 W L e k v n xs)(t:TypeId)(cs:List Value){g:Nat}(hg:W.heap.size=g):Rowed w0 (W.alloc (.cells cs.toArray t)) (L++[(g,t,cs)]) e k v n xs:=by
 subst hg
 refine h.same (fun g hg=>Below.heap_alloc W _ g (row_lt h.own hg)) (fun x hx=>?_)
 rcases List.mem_append.1 hx with h1 | h1
 ·exact h.sep x h1
 ·rw [List.mem_singleton.1 h1]
  exact fun e2=>absurd (row_lt h.own e2) (Nat.lt_irrefl _)
theorem Rowed.setLoc (h:Rowed w0 W L e k v n xs)(i:Nat){g:Nat}{t:TypeId}{cs cs':List Value}(hi:L[i]? = some (g,t,cs))(o:Nat)(vs:List Value):Rowed w0 (W.setCells g o vs) (L.set i (g,t,cs')) e k v n xs:=by
 refine h.same (fun g' hg=>heap_setCells W g (fun e2=>h.sep _ (mem_at hi) (by rw [hg,e2])) vs o) (fun x hx=>?_)
 rcases List.mem_or_eq_of_mem_set hx with h1 | h1
 ·exact h.sep x h1
 ·have h2:=h.sep _ (mem_at hi)
  rw [h1];exact h2
theorem Rowed.setLoc1 (h:Rowed w0 W L e k v n xs)(i:Nat){g:Nat}{t:TypeId}{cs cs':List Value}(hi:L[i]? = some (g,t,cs))(o:Nat)(u:Value):Rowed w0 (W.setCell ⟨g,o,none⟩ u) (L.set i (g,t,cs')) e k v n xs:=h.setLoc i hi o [u]
theorem Rowed.fewer (h:Rowed w0 W L e k v n xs)(hl:L'.Sublist L):Rowed w0 W L' e k v n xs:=⟨h.own,fun x hx=>h.sep x (hl.subset hx)⟩
theorem Locs.appended (h:Locs w0 W L [])(hr:Rowed w0 W L e k v n xs)(hg:W.grownBy W' v.ownBlock):Locs w0 W' L [] :=
 ⟨h.low.grown hg h.low.size (fun r hr'=>(hr.own.lt r hr').1),fun x hx=>⟨(h.loc x hx).1.grown hg (fun e2=>hr.sep x hx e2.symm),(h.loc x hx).2⟩,h.nodup,by simp,by simp⟩
theorem Rowed.appended (h:Locs w0 W L [])(hr:Rowed w0 W L e k v n xs){g cap:Nat}(hown:W'.ownsRow w0.heap.size e k (Zl (some ⟨g,0,none⟩) m cap) m ys)(hat:v.ownBlock=some g∨g=W.heap.size):Rowed w0 W' L e k (Zl (some ⟨g,0,none⟩) m cap) m ys:=by
 refine⟨hown,fun x hx e2=>?_⟩
 have e3:g=x.1:=by injection e2
 rcases hat with h1 | h1
 ·exact hr.sep x hx (by rw [h1,e3])
 ·have:=(h.loc x hx).1.lt;omega
end
theorem All2.take {α β:Type}{R:α→β→Prop}{l:List α}{m:List β}(h:Yd.All2 R l m):∀ k,Yd.All2 R (l.take k) (m.take k):=by
 induction h with
 | nil=>intro k;simp only [List.take_nil];exact .nil
 | cons h1 _ ih =>
   intro k
   cases k with
   | zero=>exact .nil
   | succ k=>exact .cons h1 (ih k)
theorem Locs.adopt {w0 W:World}{L:List (Nat × TypeId × List Value)}(h:Locs w0 W L []){g:Nat}{t:TypeId}{cs:List Value}(hb:Blk W g t cs.toArray)(hg:w0.heap.size≤g)(hne:∀ x ∈ L,x.1≠g):Locs w0 W (L++[(g,t,cs)]) []:=by
 refine⟨h.low,fun e he=>?_,?_,by simp,by simp⟩
 ·rcases List.mem_append.1 he with h1 | h1
  ·exact h.loc e h1
  ·rw [List.mem_singleton.1 h1];exact⟨hb,hg⟩
 ·rw [List.map_append,List.nodup_append]
  refine⟨h.nodup,by simp,fun a ha b hb=>?_⟩
  obtain⟨x,hx,rfl⟩:=List.mem_map.1 ha
  simp at hb
  rw [hb]
  exact hne x hx
theorem Locs.belowAt {w0 W W':World}{B:Nat}{L:List (Nat × TypeId × List Value)}(h:Locs w0 W L [])(hb:Below B W W')(hB:w0.heap.size≤B)(hL:∀ x ∈ L,x.1<B):Locs w0 W' L [] :=
 ⟨h.low.trans (hb.mono hB),fun x hx=>⟨(h.loc x hx).1.belowAt hb (hL x hx),(h.loc x hx).2⟩,h.nodup,by simp,by simp⟩
end Go.Proofs.Ytgekekhbhkgekaa
namespace Go.Proofs.Ytgekekhbhkgekaa
open Go Go.RowKit Go.Shelf Yd
open Go.Value renaming int→Z,string→Zs,slice→Zl
open Go.IntKind renaming i64→O
open Go.Lib renaming hid→Zh
open Go renaming cell_regrown→Zg,below_regrown→Zk
set_option maxRecDepth 100000
set_option maxHeartbeats 16000000
set_option linter.unusedSimpArgs false
theorem erase_take {α:Type}{l:List α}{k i:Nat}{p:α}(hp:l[i]? = some p)(hne:i≠k):(l.take (i+1)).eraseIdx k=(l.take i).eraseIdx k++[p]:=by
 have e:l.take (i+1)=l.take i++[p]:=by
  obtain⟨h1,h2⟩:=List.getElem?_eq_some_iff.1 hp
  rw [← List.take_append_getElem h1,h2]
 have hi:=(List.getElem?_eq_some_iff.1 hp).1
 rw [e]
 rcases Nat.lt_or_ge k i with h | h
 ·rw [List.eraseIdx_append_of_lt_length (by rw [List.length_take];omega)]
 ·rw [List.eraseIdx_of_length_le (by rw [List.length_append,List.length_take];simp;omega),List.eraseIdx_of_length_le (by rw [List.length_take];omega)]
theorem erase_take_at {α:Type}{l:List α}{k:Nat}(hk:k<l.length):(l.take (k+1)).eraseIdx k=(l.take k).eraseIdx k:=by
 rw [List.eraseIdx_of_length_le (l:=l.take k) (by rw [List.length_take];omega),List.eraseIdx_eq_take_drop_succ,List.take_take,Nat.min_eq_left (by omega),List.drop_of_length_le (by rw [List.length_take];omega),List.append_nil]
theorem rwithout_calls {base:Nat}(tv:Value)(l:List SRow)(k:Nat)(w:World)(h:w.ownsRow base 49 8 tv l.length (rowsCells l))(hk:k<l.length)(hl:l.length≤20)(hv:∀ p ∈ l,∃ a n c,p.2=Zl a n c) :
  Calls Try.prog 73 #[tv,Z O k] w fun e w' => ∃ v m,e=.returned v∧Below w.heap.size w w'∧m=(l.eraseIdx k).length∧w'.ownsRow w.heap.size 49 8 v m (rowsCells (l.eraseIdx k)):=by
 have HROW:=Zh (fun k p (hk:l[k]? = some p)=>stk_of h hk)
 have HV:=Zh hv
 obtain⟨a,n,c,rfl⟩:=row_slice h
 have hn:=row_len h
 have HN:=Zh hn
 rw [← hn]at hl hk
 obtain⟨i1_,hi1,hi1a,hi1b,hi1c⟩:=info_parts info_stack
 have HI1:=Zh hi1;have HI1a:=Zh hi1a;have HI1b:=Zh hi1b;have HI1c:=Zh hi1c
 clear h hn hv hi1 hi1a hi1b hi1c
 go_enter Try.func73,Try.ntmps73
 go_wp2
 go_loopw [5,6] (fun sv iv wr => ∃(i:Nat) (sa:Option Addr) (sn sc:Nat),i≤n∧sv=Zl sa sn sc∧iv=Z O i∧Hid (sn=((l.take i).eraseIdx k).length∧sn≤i)∧Hid (Locs w wr [] [])∧Hid (Rowed w wr [] 49 8 (Zl sa sn sc) sn (rowsCells ((l.take i).eraseIdx k)))) (fun _ iv _=>n-(intOf iv).toNat)
 case atStart=>exact⟨0,none,0,0,Nat.zero_le _,rfl,rfl,Zh ⟨by simp,Nat.le_refl _⟩,Zh (Locs.start w),Zh (by rw [List.take_zero];exact Rowed.nil _ _ _ _ _)⟩
 case round =>
  obtain⟨i,sa,sn,sc,hi,rfl,rfl,HM,HL,HR⟩:=hrel
  by_cases hlt:i<n
  ·have hil:i<l.length:=by rw [← HN.out];exact hlt
   obtain⟨p,hp⟩:∃ p,l[i]? = some p:=⟨_,List.getElem?_eq_getElem hil⟩
   have hiI:(i:Int)<(n:Int):=by omega
   by_cases hik:i=k
   ·subst hik
    have HE:=Zh (erase_take_at hil)
    clear hp
    go_wp2
    go_roundw
    case rel=>exact⟨i+1,sa,sn,sc,by omega,rfl,by go_num,Zh (by rw [HE.out];exact⟨HM.out.1,by have:=HM.out.2;omega⟩),HL,Zh (by rw [HE.out];exact HR.out)⟩
    case measure=>simp [intOf];omega
   ·obtain⟨g,cap,hv,hg,hnc,hcells⟩:=HROW.out i p hp
    injection hv with e1 e2 e3
    clear e2
    subst e1 e3
    have hcn:n≤c:=by rw [HN.out];exact hnc
    have HE:=Zh (erase_take (k:=k) hp hik)
    obtain⟨fa,fn,fc,hfv⟩:=HV.out p (List.mem_of_getElem? hp)
    have hne:((i:Int) != (k:Int))=true:=by simp;omega
    have hne2:¬ (i:Int)=(k:Int):=by omega
    obtain⟨⟨xc,⟨dl,dh⟩,⟨wl,wh⟩,pil,boi,src⟩,pv⟩:=p
    simp only at hfv
    subst hfv
    have c0:=(show wr.cell? ⟨g,i*8,none⟩=some (Zs xc)from(HL.out.low.cell (p:=⟨g,i*8+0,none⟩) hg).trans (hcells 0 (by omega)))
    have c1:=(show wr.cell? ⟨g,i*8+1,none⟩=some (Z O dl)from(HL.out.low.cell (p:=⟨g,i*8+1,none⟩) hg).trans (hcells 1 (by omega)))
    have c2:=(show wr.cell? ⟨g,i*8+2,none⟩=some (Z O dh)from(HL.out.low.cell (p:=⟨g,i*8+2,none⟩) hg).trans (hcells 2 (by omega)))
    have c3:=(show wr.cell? ⟨g,i*8+3,none⟩=some (Z O wl)from(HL.out.low.cell (p:=⟨g,i*8+3,none⟩) hg).trans (hcells 3 (by omega)))
    have c4:=(show wr.cell? ⟨g,i*8+4,none⟩=some (Z O wh)from(HL.out.low.cell (p:=⟨g,i*8+4,none⟩) hg).trans (hcells 4 (by omega)))
    have c5:=(show wr.cell? ⟨g,i*8+5,none⟩=some (Z O pil)from(HL.out.low.cell (p:=⟨g,i*8+5,none⟩) hg).trans (hcells 5 (by omega)))
    have c6:=(show wr.cell? ⟨g,i*8+6,none⟩=some (Z O boi)from(HL.out.low.cell (p:=⟨g,i*8+6,none⟩) hg).trans (hcells 6 (by omega)))
    have c7:=(show wr.cell? ⟨g,i*8+7,none⟩=some (Zl fa fn fc)from(HL.out.low.cell (p:=⟨g,i*8+7,none⟩) hg).trans (hcells 7 (by omega)))
    have HA1:=Zh (show sn+1≤maxLen∧(sn+1)*88≤140737488355328 by have:=HM.out.2;unfold maxLen;omega)
    clear hcells hg hnc hp
    have HRa:=Zh (HR.out.alloc 49 [Zs xc,Z O dl,Z O dh,Z O wl,Z O wh,Z O pil,Z O boi,Zl fa fn fc] (rfl:wr.heap.size=wr.heap.size))
    have HLa:=Zh (HL.out.alloc 49 [Zs xc,Z O dl,Z O dh,Z O wl,Z O wh,Z O pil,Z O boi,Zl fa fn fc] (rfl:wr.heap.size=wr.heap.size))
    go_wp2_with (at_builtin;refine wpList_append_lies _ rfl (.tmp 16) (.tmp 21) 30 rfl w.heap.size 49 i1_ (.agg #[Zs ⟨#[]⟩,Z O 0,Z O 0,Z O 0,Z O 0,Z O 0,Z O 0,Zl none 0 0]) 8 88 Try.underlying30 HI1.out HI1a.out HI1b.out HI1c.out rfl (by decide) (Zl sa sn sc) sn (rowsCells ((l.take i).eraseIdx k)) rfl HRa.out.own ⟨wr.heap.size,0,none⟩ 1 1 [Zs xc,Z O dl,Z O dh,Z O wl,Z O wh,Z O pil,Z O boi,Zl fa fn fc] rfl rfl (World.news_of_block (heap_alloc_new wr _)) (by simp [Value.oneCell']) (by decide) HA1.out.1 HA1.out.2 HLa.out.low.size (wr.heap.size+1) (World.size_alloc _ _) ?_;intro g7 cap7 w7 hown7 hg7 hat7 hlt7;have HL7:=Zh ((HLa.out.appended HRa.out hg7).fewer (List.nil_sublist _) (List.Sublist.refl _));have HR7:=Zh ((Rowed.appended HLa.out HRa.out hown7 (by rw [World.size_alloc];exact hat7)).fewer (List.nil_sublist _));clear hown7 hg7 hat7 hlt7)
    go_roundw
    case rel =>
     refine⟨i+1,some ⟨g7,0,none⟩,sn+1,cap7,by omega,rfl,by go_num,Zh ?_,HL7,Zh ?_⟩
     ·rw [HE.out,List.length_append,← HM.out.1];exact⟨rfl,by have:=HM.out.2;omega⟩
     ·rw [HE.out,rowsCells_append];exact HR7.out
    case measure=>simp [intOf];omega
  ·have hin:n=i:=by omega
   subst hin
   have HE:=Zh (p:=l.take n=l) (by rw [List.take_of_length_le (by rw [← HN.out];exact Nat.le_refl _)])
   go_wp2
   go_ret
   refine⟨Zl sa sn sc,sn,rfl,HL.out.low,?_,?_⟩
   ·rw [HM.out.1,HE.out]
   ·have:=HR.out.own
    rw [HE.out]at this
    exact this
theorem both_left {a:Int}{l m:List Int}(h:m = []∨∃ b r,m=b :: r∧a<b):both (a :: l) m=a :: both l m:=by
 rcases h with rfl | ⟨b,r,rfl,hab⟩
 ·rw [both]
  cases l <;> rw [both]
 ·rw [both,if_pos hab]
theorem both_right {b:Int}{l m:List Int}(h:l = []∨∃ a r,l=a :: r∧b<a):both l (b :: m)=b :: both l m:=by
 rcases h with rfl | ⟨a,r,rfl,hab⟩
 ·rw [both]
  cases m <;> rw [both]
 ·rw [both,if_neg (by omega),if_pos hab]
theorem both_same {a:Int}{l m:List Int}:both (a :: l) (a :: m)=a :: both l m:=by rw [both,if_neg (Int.lt_irrefl _),if_neg (Int.lt_irrefl _)]
theorem ints_append (l:List Int)(x:Int):intCells (l++[x])=intCells l++[Z O x]:=by simp [intCells]
theorem drop_int {l:List Int}{i:Nat}(h:i<l.length):l.drop i=l[i]! :: l.drop (i+1):=by rw [getElem!_pos l i h];exact List.drop_eq_getElem_cons h
theorem rboth_calls (v v':Value)(l l':List Int)(w:World)(h:w.ownsRow 0 3 1 v l.length (intCells l))(h':w.ownsRow 0 3 1 v' l'.length (intCells l'))(hl:l.length≤1000)(hl':l'.length≤1000) :
  Calls Try.prog 56 #[v,v'] w fun e w' => ∃ u m,e=.returned u∧Below w.heap.size w w'∧m=(both l l').length∧w'.ownsRow w.heap.size 3 1 u m (intCells (both l l')):=by
 obtain⟨a,ac,rfl,hca⟩:=ints_at h
 obtain⟨b,bc,rfl,hcb⟩:=ints_at h'
 have hac:l.length≤ac:=by
  rcases Nat.eq_zero_or_pos l.length with h0 | h0
  ·omega
  ·obtain⟨g',cap',cur',hv',_,hc',_⟩:=row_block h h0
   injection hv' with _ _ e3
   omega
 have hbc:l'.length≤bc:=by
  rcases Nat.eq_zero_or_pos l'.length with h0 | h0
  ·omega
  ·obtain⟨g',cap',cur',hv',_,hc',_⟩:=row_block h' h0
   injection hv' with _ _ e3
   omega
 have HCA:=Zh hca;have HCB:=Zh hcb
 obtain⟨n,hn⟩:∃ n,n=l.length:=⟨_,rfl⟩
 obtain⟨m,hm⟩:∃ n,n=l'.length:=⟨_,rfl⟩
 rw [← hn]at hl hac ⊢
 rw [← hm]at hl' hbc ⊢
 have HN:=Zh hn;have HMM:=Zh hm
 obtain⟨i1_,hi1,hi1a,hi1b,hi1c⟩:=info_parts info_int
 have HI1:=Zh hi1;have HI1a:=Zh hi1a;have HI1b:=Zh hi1b;have HI1c:=Zh hi1c
 clear h h' hca hcb hn hm hi1 hi1a hi1b hi1c
 go_enter Try.func56,Try.ntmps56
 go_wp2
 go_loopw [5,6,7] (fun sv iv kv wr => ∃(i k:Nat) (acc:List Int) (sa:Option Addr) (sn sc:Nat),i≤n∧k≤m∧sv=Zl sa sn sc∧iv=Z O i∧kv=Z O k∧Hid (sn=acc.length∧sn≤i+k)∧Hid (both l l'=acc++both (l.drop i) (l'.drop k))∧Hid (Locs w wr [] [])∧Hid (Rowed w wr [] 3 1 (Zl sa sn sc) sn (intCells acc))) (fun _ iv kv _=>(n-(intOf iv).toNat)+(m-(intOf kv).toNat))
 case atStart=>exact⟨0,0,[],none,0,0,Nat.zero_le _,Nat.zero_le _,rfl,rfl,rfl,Zh ⟨rfl,Nat.le_refl _⟩,Zh (by rw [List.drop_zero,List.drop_zero];rfl),Zh (Locs.start w),Zh (Rowed.nil _ _ _ _ _)⟩
 case round =>
  obtain⟨i,k,acc,sa,sn,sc,hi,hk,rfl,rfl,rfl,HM,HB,HL,HR⟩:=hrel
  have HA1:=Zh (show sn+1≤maxLen∧(sn+1)*8≤140737488355328 by have:=HM.out.2;unfold maxLen;omega)
  have HX:=Zh (fun(hin:i<n)=>(show ∃ g,a=some ⟨g,0,none⟩∧∀ W,Below w.heap.size w W→W.cell? ⟨g,i,none⟩=some (Z O l[i]!)from by
   obtain⟨g,hg,hlt,hc⟩:=HCA.out (by rw [← HN.out];omega)
   exact⟨g,hg,fun W hW=>(hW.cell (p:=⟨g,i,none⟩) hlt).trans (hc i (by rw [← HN.out];exact hin))⟩))
  have HY:=Zh (fun(hkm:k<m)=>(show ∃ g,b=some ⟨g,0,none⟩∧∀ W,Below w.heap.size w W→W.cell? ⟨g,k,none⟩=some (Z O l'[k]!)from by
   obtain⟨g,hg,hlt,hc⟩:=HCB.out (by rw [← HMM.out];omega)
   exact⟨g,hg,fun W hW=>(hW.cell (p:=⟨g,k,none⟩) hlt).trans (hc k (by rw [← HMM.out];exact hkm))⟩))
  by_cases hin:i<n
  ·obtain⟨ga,rfl,hca2⟩:=HX.out hin
   have hinI:(i:Int)<(n:Int):=by omega
   have hind:decide ((i:Int)<(n:Int))=true:=by simpa using hinI
   have hine:((i:Int) == (n:Int))=false:=by simp;omega
   have hine2:¬ (i:Int)=(n:Int):=by omega
   have HD:=Zh (drop_int (l:=l) (i:=i) (by rw [← HN.out];exact hin))
   obtain⟨x,hx⟩:∃ x,x=l[i]! :=⟨_,rfl⟩
   rw [← hx]at hca2 HD
   have CA:=Zh hca2
   have ca:=CA.out _ HL.out.low
   clear hx hca2
   by_cases hkm:k<m
   ·obtain⟨gb,rfl,hcb2⟩:=HY.out hkm
    have hkmI:(k:Int)<(m:Int):=by omega
    have hkmd:decide ((k:Int)<(m:Int))=true:=by simpa using hkmI
    have hkme:((k:Int) == (m:Int))=false:=by simp;omega
    have hkme2:¬ (k:Int)=(m:Int):=by omega
    have HD2:=Zh (drop_int (l:=l') (i:=k) (by rw [← HMM.out];exact hkm))
    obtain⟨y,hy⟩:∃ y,y=l'[k]! :=⟨_,rfl⟩
    rw [← hy]at hcb2 HD2
    have CB:=Zh hcb2
    have cb:=CB.out _ HL.out.low
    clear hy hcb2
    by_cases hxy:x<y
    ·have hxd:decide (x<y)=true:=by simpa using hxy
     have ra:=Zg ca;have rb:=Zg cb
     go_upto_region 7 with(fail)
     refine wp_region_quiet_below (by kernel_rfl) (by kernel_rfl) ?_
     repeat(go_big_quiet_step (fail))
     refine wpQuiet_nil ?_
     intro wq hw'
     have hb8:Below wr.heap.size wr wq:=by obtain⟨⟨dq,osq⟩,hw''⟩:=hw';rw [hw''];exact Zk _ dq osq
     clear hw'
     have HL:=Zh (HL.out.below hb8)
     have HR:=Zh (HR.out.below hb8)
     try clear ca ra
     try clear cb rb
     try have ca:=CA.out _ HL.out.low
     try have cb:=CB.out _ HL.out.low
     clear hb8
     have HRa:=Zh (HR.out.alloc 3 [Z O x] (rfl:wq.heap.size=wq.heap.size))
     have HLa:=Zh (HL.out.alloc 3 [Z O x] (rfl:wq.heap.size=wq.heap.size))
     go_wp2_with (at_builtin;refine wpList_append_lies _ rfl (.tmp 51) (.tmp 56) 47 rfl w.heap.size 3 i1_ (Z O 0) 1 8 Try.underlying47 HI1.out HI1a.out HI1b.out HI1c.out rfl (by decide) (Zl sa sn sc) sn (intCells acc) rfl HRa.out.own ⟨wq.heap.size,0,none⟩ 1 1 [Z O x] rfl rfl (World.news_of_block (heap_alloc_new wq _)) (by simp [Value.oneCell']) (by decide) HA1.out.1 HA1.out.2 HLa.out.low.size (wq.heap.size+1) (World.size_alloc _ _) ?_;intro g7 cap7 w7 hown7 hg7 hat7 hlt7;have HL7:=Zh ((HLa.out.appended HRa.out hg7).fewer (List.nil_sublist _) (List.Sublist.refl _));have HR7:=Zh ((Rowed.appended HLa.out HRa.out hown7 (by rw [World.size_alloc];exact hat7)).fewer (List.nil_sublist _));clear hown7 hg7 hat7 hlt7)
     go_roundw
     case rel =>
      refine⟨i+1,k,acc++[x],some ⟨g7,0,none⟩,sn+1,cap7,by omega,by omega,rfl,by go_num,by go_num,Zh ?_,Zh ?_,HL7,Zh ?_⟩
      ·rw [List.length_append,← HM.out.1];exact⟨rfl,by have:=HM.out.2;omega⟩
      ·rw [HB.out,HD.out,both_left (.inr ⟨y,_,HD2.out,hxy⟩),List.append_assoc];rfl
      ·rw [ints_append];exact HR7.out
     case measure=>simp [intOf];omega
    ·have hxd:decide (x<y)=false:=by simpa using hxy
     by_cases hyx:y<x
     ·have hyd:decide (y<x)=true:=by simpa using hyx
      have ra:=Zg ca;have rb:=Zg cb
      go_upto_region 7 with(fail)
      refine wp_region_quiet_below (by kernel_rfl) (by kernel_rfl) ?_
      repeat(go_big_quiet_step (fail))
      refine wpQuiet_nil ?_
      intro wq hw'
      have hb8:Below wr.heap.size wr wq:=by obtain⟨⟨dq,osq⟩,hw''⟩:=hw';rw [hw''];exact Zk _ dq osq
      clear hw'
      have HL:=Zh (HL.out.below hb8)
      have HR:=Zh (HR.out.below hb8)
      try clear ca ra
      try clear cb rb
      try have ca:=CA.out _ HL.out.low
      try have cb:=CB.out _ HL.out.low
      clear hb8
      try have ra:=Zg ca
      try have rb:=Zg cb
      go_upto_region 10 with(fail)
      refine wp_region_quiet_below (by kernel_rfl) (by kernel_rfl) ?_
      repeat(go_big_quiet_step (fail))
      refine wpQuiet_nil ?_
      intro wp hw'
      have hb8:Below wq.heap.size wq wp:=by obtain⟨⟨dq,osq⟩,hw''⟩:=hw';rw [hw''];exact Zk _ dq osq
      clear hw'
      have HL:=Zh (HL.out.below hb8)
      have HR:=Zh (HR.out.below hb8)
      try clear ca ra
      try clear cb rb
      try have ca:=CA.out _ HL.out.low
      try have cb:=CB.out _ HL.out.low
      clear hb8
      have HRa:=Zh (HR.out.alloc 3 [Z O y] (rfl:wp.heap.size=wp.heap.size))
      have HLa:=Zh (HL.out.alloc 3 [Z O y] (rfl:wp.heap.size=wp.heap.size))
      go_wp2_with (at_builtin;refine wpList_append_lies _ rfl (.tmp 76) (.tmp 81) 47 rfl w.heap.size 3 i1_ (Z O 0) 1 8 Try.underlying47 HI1.out HI1a.out HI1b.out HI1c.out rfl (by decide) (Zl sa sn sc) sn (intCells acc) rfl HRa.out.own ⟨wp.heap.size,0,none⟩ 1 1 [Z O y] rfl rfl (World.news_of_block (heap_alloc_new wp _)) (by simp [Value.oneCell']) (by decide) HA1.out.1 HA1.out.2 HLa.out.low.size (wp.heap.size+1) (World.size_alloc _ _) ?_;intro g7 cap7 w7 hown7 hg7 hat7 hlt7;have HL7:=Zh ((HLa.out.appended HRa.out hg7).fewer (List.nil_sublist _) (List.Sublist.refl _));have HR7:=Zh ((Rowed.appended HLa.out HRa.out hown7 (by rw [World.size_alloc];exact hat7)).fewer (List.nil_sublist _));clear hown7 hg7 hat7 hlt7)
      go_roundw
      case rel =>
       refine⟨i,k+1,acc++[y],some ⟨g7,0,none⟩,sn+1,cap7,by omega,by omega,rfl,by go_num,by go_num,Zh ?_,Zh ?_,HL7,Zh ?_⟩
       ·rw [List.length_append,← HM.out.1];exact⟨rfl,by have:=HM.out.2;omega⟩
       ·rw [HB.out,HD2.out,both_right (.inr ⟨x,_,HD.out,hyx⟩),List.append_assoc];rfl
       ·rw [ints_append];exact HR7.out
      case measure=>simp [intOf];omega
     ·have hyd:decide (y<x)=false:=by simpa using hyx
      have HXE:=Zh (show x=y by omega)
      have ra:=Zg ca;have rb:=Zg cb
      go_upto_region 7 with(fail)
      refine wp_region_quiet_below (by kernel_rfl) (by kernel_rfl) ?_
      repeat(go_big_quiet_step (fail))
      refine wpQuiet_nil ?_
      intro wq hw'
      have hb8:Below wr.heap.size wr wq:=by obtain⟨⟨dq,osq⟩,hw''⟩:=hw';rw [hw''];exact Zk _ dq osq
      clear hw'
      have HL:=Zh (HL.out.below hb8)
      have HR:=Zh (HR.out.below hb8)
      try clear ca ra
      try clear cb rb
      try have ca:=CA.out _ HL.out.low
      try have cb:=CB.out _ HL.out.low
      clear hb8
      try have ra:=Zg ca
      try have rb:=Zg cb
      go_upto_region 10 with(fail)
      refine wp_region_quiet_below (by kernel_rfl) (by kernel_rfl) ?_
      repeat(go_big_quiet_step (fail))
      refine wpQuiet_nil ?_
      intro wp hw'
      have hb8:Below wq.heap.size wq wp:=by obtain⟨⟨dq,osq⟩,hw''⟩:=hw';rw [hw''];exact Zk _ dq osq
      clear hw'
      have HL:=Zh (HL.out.below hb8)
      have HR:=Zh (HR.out.below hb8)
      try clear ca ra
      try clear cb rb
      try have ca:=CA.out _ HL.out.low
      try have cb:=CB.out _ HL.out.low
      clear hb8
      have HRa:=Zh (HR.out.alloc 3 [Z O x] (rfl:wp.heap.size=wp.heap.size))
      have HLa:=Zh (HL.out.alloc 3 [Z O x] (rfl:wp.heap.size=wp.heap.size))
      go_wp2_with (at_builtin;refine wpList_append_lies _ rfl (.tmp 18) (.tmp 23) 47 rfl w.heap.size 3 i1_ (Z O 0) 1 8 Try.underlying47 HI1.out HI1a.out HI1b.out HI1c.out rfl (by decide) (Zl sa sn sc) sn (intCells acc) rfl HRa.out.own ⟨wp.heap.size,0,none⟩ 1 1 [Z O x] rfl rfl (World.news_of_block (heap_alloc_new wp _)) (by simp [Value.oneCell']) (by decide) HA1.out.1 HA1.out.2 HLa.out.low.size (wp.heap.size+1) (World.size_alloc _ _) ?_;intro g7 cap7 w7 hown7 hg7 hat7 hlt7;have HL7:=Zh ((HLa.out.appended HRa.out hg7).fewer (List.nil_sublist _) (List.Sublist.refl _));have HR7:=Zh ((Rowed.appended HLa.out HRa.out hown7 (by rw [World.size_alloc];exact hat7)).fewer (List.nil_sublist _));clear hown7 hg7 hat7 hlt7)
      go_roundw
      case rel =>
       refine⟨i+1,k+1,acc++[x],some ⟨g7,0,none⟩,sn+1,cap7,by omega,by omega,rfl,by go_num,by go_num,Zh ?_,Zh ?_,HL7,Zh ?_⟩
       ·rw [List.length_append,← HM.out.1];exact⟨rfl,by have:=HM.out.2;omega⟩
       ·rw [HB.out,HD.out,HD2.out,← HXE.out,both_same,List.append_assoc];rfl
       ·rw [ints_append];exact HR7.out
      case measure=>simp [intOf];omega
   ·have hkm2:k=m:=by omega
    subst hkm2
    have ra:=Zg ca
    go_upto_region 7 with(fail)
    refine wp_region_quiet_below (by kernel_rfl) (by kernel_rfl) ?_
    repeat(go_big_quiet_step (fail))
    refine wpQuiet_nil ?_
    intro wq hw'
    have hb8:Below wr.heap.size wr wq:=by obtain⟨⟨dq,osq⟩,hw''⟩:=hw';rw [hw''];exact Zk _ dq osq
    clear hw'
    have HL:=Zh (HL.out.below hb8)
    have HR:=Zh (HR.out.below hb8)
    try clear ca ra
    try clear cb rb
    try have ca:=CA.out _ HL.out.low
    try have cb:=CB.out _ HL.out.low
    clear hb8
    have HRa:=Zh (HR.out.alloc 3 [Z O x] (rfl:wq.heap.size=wq.heap.size))
    have HLa:=Zh (HL.out.alloc 3 [Z O x] (rfl:wq.heap.size=wq.heap.size))
    go_wp2_with (at_builtin;refine wpList_append_lies _ rfl (.tmp 51) (.tmp 56) 47 rfl w.heap.size 3 i1_ (Z O 0) 1 8 Try.underlying47 HI1.out HI1a.out HI1b.out HI1c.out rfl (by decide) (Zl sa sn sc) sn (intCells acc) rfl HRa.out.own ⟨wq.heap.size,0,none⟩ 1 1 [Z O x] rfl rfl (World.news_of_block (heap_alloc_new wq _)) (by simp [Value.oneCell']) (by decide) HA1.out.1 HA1.out.2 HLa.out.low.size (wq.heap.size+1) (World.size_alloc _ _) ?_;intro g7 cap7 w7 hown7 hg7 hat7 hlt7;have HL7:=Zh ((HLa.out.appended HRa.out hg7).fewer (List.nil_sublist _) (List.Sublist.refl _));have HR7:=Zh ((Rowed.appended HLa.out HRa.out hown7 (by rw [World.size_alloc];exact hat7)).fewer (List.nil_sublist _));clear hown7 hg7 hat7 hlt7)
    go_roundw
    case rel =>
     refine⟨i+1,k,acc++[x],some ⟨g7,0,none⟩,sn+1,cap7,by omega,by omega,rfl,by go_num,by go_num,Zh ?_,Zh ?_,HL7,Zh ?_⟩
     ·rw [List.length_append,← HM.out.1];exact⟨rfl,by have:=HM.out.2;omega⟩
     ·rw [HB.out,HD.out,both_left (.inl (List.drop_of_length_le (by rw [← HMM.out];exact Nat.le_refl _))),List.append_assoc];rfl
     ·rw [ints_append];exact HR7.out
    case measure=>simp [intOf];omega
  ·have hin2:i=n:=by omega
   subst hin2
   by_cases hkm:k<m
   ·obtain⟨gb,rfl,hcb2⟩:=HY.out hkm
    have hkmI:(k:Int)<(m:Int):=by omega
    have hkmd:decide ((k:Int)<(m:Int))=true:=by simpa using hkmI
    have hkme:((k:Int) == (m:Int))=false:=by simp;omega
    have hkme2:¬ (k:Int)=(m:Int):=by omega
    have HD2:=Zh (drop_int (l:=l') (i:=k) (by rw [← HMM.out];exact hkm))
    obtain⟨y,hy⟩:∃ y,y=l'[k]! :=⟨_,rfl⟩
    rw [← hy]at hcb2 HD2
    have CB:=Zh hcb2
    have cb:=CB.out _ HL.out.low
    clear hy hcb2
    have rb:=Zg cb
    go_upto_region 7 with(fail)
    refine wp_region_quiet_below (by kernel_rfl) (by kernel_rfl) ?_
    repeat(go_big_quiet_step (fail))
    refine wpQuiet_nil ?_
    intro wq hw'
    have hb8:Below wr.heap.size wr wq:=by obtain⟨⟨dq,osq⟩,hw''⟩:=hw';rw [hw''];exact Zk _ dq osq
    clear hw'
    have HL:=Zh (HL.out.below hb8)
    have HR:=Zh (HR.out.below hb8)
    try clear ca ra
    try clear cb rb
    try have ca:=CA.out _ HL.out.low
    try have cb:=CB.out _ HL.out.low
    clear hb8
    try have ra:=Zg ca
    try have rb:=Zg cb
    go_upto_region 10 with(fail)
    refine wp_region_quiet_below (by kernel_rfl) (by kernel_rfl) ?_
    repeat(go_big_quiet_step (fail))
    refine wpQuiet_nil ?_
    intro wp hw'
    have hb8:Below wq.heap.size wq wp:=by obtain⟨⟨dq,osq⟩,hw''⟩:=hw';rw [hw''];exact Zk _ dq osq
    clear hw'
    have HL:=Zh (HL.out.below hb8)
    have HR:=Zh (HR.out.below hb8)
    try clear ca ra
    try clear cb rb
    try have ca:=CA.out _ HL.out.low
    try have cb:=CB.out _ HL.out.low
    clear hb8
    have HRa:=Zh (HR.out.alloc 3 [Z O y] (rfl:wp.heap.size=wp.heap.size))
    have HLa:=Zh (HL.out.alloc 3 [Z O y] (rfl:wp.heap.size=wp.heap.size))
    go_wp2_with (at_builtin;refine wpList_append_lies _ rfl (.tmp 76) (.tmp 81) 47 rfl w.heap.size 3 i1_ (Z O 0) 1 8 Try.underlying47 HI1.out HI1a.out HI1b.out HI1c.out rfl (by decide) (Zl sa sn sc) sn (intCells acc) rfl HRa.out.own ⟨wp.heap.size,0,none⟩ 1 1 [Z O y] rfl rfl (World.news_of_block (heap_alloc_new wp _)) (by simp [Value.oneCell']) (by decide) HA1.out.1 HA1.out.2 HLa.out.low.size (wp.heap.size+1) (World.size_alloc _ _) ?_;intro g7 cap7 w7 hown7 hg7 hat7 hlt7;have HL7:=Zh ((HLa.out.appended HRa.out hg7).fewer (List.nil_sublist _) (List.Sublist.refl _));have HR7:=Zh ((Rowed.appended HLa.out HRa.out hown7 (by rw [World.size_alloc];exact hat7)).fewer (List.nil_sublist _));clear hown7 hg7 hat7 hlt7)
    go_roundw
    case rel =>
     refine⟨i,k+1,acc++[y],some ⟨g7,0,none⟩,sn+1,cap7,by omega,by omega,rfl,by go_num,by go_num,Zh ?_,Zh ?_,HL7,Zh ?_⟩
     ·rw [List.length_append,← HM.out.1];exact⟨rfl,by have:=HM.out.2;omega⟩
     ·rw [HB.out,HD2.out,both_right (.inl (List.drop_of_length_le (by rw [← HN.out];exact Nat.le_refl _))),List.append_assoc];rfl
     ·rw [ints_append];exact HR7.out
    case measure=>simp [intOf];omega
   ·have hkm2:k=m:=by omega
    subst hkm2
    have HE:=Zh (p:=both l l'=acc) (by rw [HB.out,List.drop_of_length_le (by rw [← HN.out];exact Nat.le_refl _),List.drop_of_length_le (by rw [← HMM.out];exact Nat.le_refl _),both,List.append_nil])
    go_wp2
    go_ret
    refine⟨Zl sa sn sc,sn,rfl,HL.out.low,?_,?_⟩
    ·rw [HE.out];exact HM.out.1
    ·rw [HE.out];exact HR.out.own
end Go.Proofs.Ytgekekhbhkgekaa
