/- The shelf: a thing is dropped. The shelf: a thing is dropped. The book keeps a stack: in its place, or behind all others. Two ascending lists, in order: plain; and what inOrder's iterator yields. -/
import Derived.Test.YtgekekhbhkgekaaRYDel
import Derived.Deep.LoopGhost
import Derived.Test.YtgekekhbhkgekaaRYIter
namespace Go.Proofs.Ytgekekhbhkgekaa
open Go Go.RowKit Yd
open _root_.Go.Value renaming int → Z, string → Zs, slice → Zl
open _root_.Go.IntKind renaming i64 → O
open _root_.Go.Lib renaming hid → Zh
open _root_.Go renaming cell_regrown → Zg, below_regrown → Zk
set_option maxRecDepth 100000
set_option maxHeartbeats 16000000
theorem wpList_places_drop {ops:Array Oper}{rest:List Oper}{o:Oper}{a:Act}{w:World}{Q:Exit→Act→World→Prop}(hg:o.guard=none)(mx x:Operand)(t:TypeId)(hop:o.op=Op.call { callee:=Callee.builtin Builtin.delete,args:=#[mx,x],argTypes:=#[t,9] })
  (hT:Try.prog.underlying t=some (.map 9 3)) {m n:Nat} {ix:Code→Option Nat} (hm:a.eval mx=.map (some m)) (h:Places w m n ix) {c:Code} (hx:a.eval x=Zs c) (hc:c.size≤maxLen)
  (hK:∀ w',Places w' m n (fun c'=>if c'=c then none else ix c')→w.grownBy w' (some m)→wpList Try.prog ops Q rest (a.put o.dst (.tuple #[])) w'):wpList Try.prog ops Q (o :: rest) a w:=by
 refine wpList_plain hg fun K' hK'=>?_
 obtain⟨w',hrun,r1,r2⟩:=h.drop hc hT o.type
 unfold Oper.wp
 simp [execOp,hop,resolve,invoke,builtin,hm,hx,hrun,Result.andThen]
 exact hK' _ _ (hK w' r1 r2)
theorem rows_take_drop (l:List SRow)(k:Nat):(rowsCells l).take (k*8)=rowsCells (l.take k)∧(rowsCells l).drop (k*8)=rowsCells (l.drop k):=by
 induction l generalizing k with
 | nil=>simp [rowsCells]
 | cons q r ih =>
   cases k with
   | zero=>simp [rowsCells]
   | succ k =>
     have hl:(rowCells q).length=8:=rfl
     obtain⟨h1,h2⟩:=ih k
     constructor
     ·show(rowCells q++rowsCells r).take ((k+1)*8)=rowCells q++rowsCells (r.take k)
      rw [List.take_append,hl,List.take_of_length_le (l:=rowCells q) (by omega),show(k+1)*8-8=k*8 by omega,h1]
     ·show(rowCells q++rowsCells r).drop ((k+1)*8)=rowsCells (r.drop k)
      rw [List.drop_append,hl,List.drop_of_length_le (l:=rowCells q) (by omega),show(k+1)*8-8=k*8 by omega,h2,List.nil_append]
theorem rows_erase (l:List SRow)(k:Nat):(rowsCells l).take (k*8)++(rowsCells l).drop ((k+1)*8)=rowsCells (l.eraseIdx k):=by
 rw [(rows_take_drop l k).1,(rows_take_drop l (k+1)).2,List.eraseIdx_eq_take_drop_succ]
 simp [rowsCells]
theorem codes_erase (l:List SRow)(k:Nat):(codeCells l).take (k*1)++(codeCells l).drop ((k+1)*1)=codeCells (l.eraseIdx k):=by
 rw [Nat.mul_one,Nat.mul_one,List.eraseIdx_eq_take_drop_succ]
 simp [codeCells,List.map_take,List.map_drop]
theorem ones_codes (l:List SRow):∀ u ∈ codeCells l,u.oneCell'=true:=fun u hu=>by
 obtain⟨p,_,rfl⟩:=List.mem_map.1 hu
 rfl
theorem ones_rows {l:List SRow}(h:∀ p ∈ l,∃ a n c,p.2=Zl a n c):∀ u ∈ rowsCells l,u.oneCell'=true:=fun u hu=>by
 obtain⟨p,hp,hu⟩:=List.mem_flatMap.1 hu
 obtain⟨a,n,c,e⟩:=h p hp
 unfold rowCells stkCells at hu
 rw [e]at hu
 simp only [List.mem_cons,List.not_mem_nil,or_false]at hu
 rcases hu with rfl | rfl | rfl | rfl | rfl | rfl | rfl | rfl <;> rfl
def ixAt (l':List SRow)(k r:Nat)(c:Code):Option Nat:=(ixOf l' c).map fun j=>if j<k+r then j else j+1
theorem ixOf_lt {l:List SRow}{c:Code}{j:Nat}(h:ixOf l c=some j):j<l.length:=by
 obtain⟨p,hp,_⟩:=ixOf_some h
 exact(List.getElem?_eq_some_iff.1 hp).1
theorem ixAt_end (l':List SRow)(k r:Nat)(h:l'.length≤k+r)(c:Code):ixAt l' k r c=ixOf l' c:=by
 unfold ixAt
 cases hx:ixOf l' c with
 | none=>rfl
 | some j =>
   have:=ixOf_lt hx
   simp;omega
theorem ixOf_at {l:List SRow}(hn:(l.map fun p=>p.1.code).Nodup){j:Nat}{p:SRow}(hp:l[j]? = some p):ixOf l p.1.code=some j:=by
 unfold ixOf
 rw [List.findIdx?_eq_some_iff_getElem]
 obtain⟨hj,e⟩:=List.getElem?_eq_some_iff.1 hp
 refine⟨hj,by rw [e];simp,fun i hi=>?_⟩
 simp only [decide_eq_true_eq]
 intro e2
 have:=(List.pairwise_iff_getElem.1 hn) i j (by simp;omega) (by simp;omega) hi
 simp only [List.getElem_map]at this
 rw [e]at this
 exact this e2
theorem ixAt_start {l:List SRow}(hn:(l.map fun p=>p.1.code).Nodup){k:Nat}{p:SRow}(hp:l[k]? = some p)(c:Code):(if c=p.1.code then none else ixOf l c)=ixAt (l.eraseIdx k) k 0 c:=by
 obtain⟨hk,hpe⟩:=List.getElem?_eq_some_iff.1 hp
 have hn':((l.eraseIdx k).map fun p=>p.1.code).Nodup:=by
  exact hn.sublist ((List.eraseIdx_sublist l k).map _)
 by_cases hc:c=p.1.code
 ·rw [if_pos hc]
  subst hc
  unfold ixAt
  cases hx:ixOf (l.eraseIdx k) p.1.code with
  | none=>rfl
  | some j =>
    exfalso
    obtain⟨q,hq,hqc⟩:=ixOf_some hx
    rw [List.getElem?_eraseIdx]at hq
    split at hq
    ·have:=ixOf_at hn hq
     rw [hqc,ixOf_at hn hp]at this
     cases this;omega
    ·have:=ixOf_at hn hq
     rw [hqc,ixOf_at hn hp]at this
     cases this;omega
 ·rw [if_neg hc]
  unfold ixAt
  cases hx:ixOf l c with
  | none =>
    have:ixOf (l.eraseIdx k) c=none:=by
     unfold ixOf
     rw [List.findIdx?_eq_none_iff]
     intro q hq
     have:=ixOf_none hx q ((List.eraseIdx_sublist l k).subset hq)
     simpa using this
    rw [this];rfl
  | some j =>
    obtain⟨q,hq,rfl⟩:=ixOf_some hx
    have hjk:j≠k:=fun e=>by subst e;rw [hp]at hq;cases hq;exact hc rfl
    by_cases hlt:j<k
    ·have:ixOf (l.eraseIdx k) q.1.code=some j:=ixOf_at hn' (by rw [List.getElem?_eraseIdx,if_pos hlt];exact hq)
     rw [this]
     simp [hlt]
    ·have:ixOf (l.eraseIdx k) q.1.code=some (j-1):=ixOf_at hn' (by rw [List.getElem?_eraseIdx,if_neg (by omega),show j-1+1=j by omega];exact hq)
     rw [this]
     simp only [Option.map_some,Option.some.injEq]
     split <;> omega
theorem ixAt_step {l':List SRow}(hn:(l'.map fun p=>p.1.code).Nodup){k r:Nat}{p:SRow}(hp:l'[k+r]? = some p)(c:Code):(if c=p.1.code then some (k+r)else ixAt l' k r c)=ixAt l' k (r+1) c:=by
 by_cases hc:c=p.1.code
 ·rw [if_pos hc]
  subst hc
  unfold ixAt
  rw [ixOf_at hn hp]
  simp
 ·rw [if_neg hc]
  unfold ixAt
  cases hx:ixOf l' c with
  | none=>rfl
  | some j =>
    have hj:j≠k+r:=fun e=>by
     obtain⟨q,hq,hqc⟩:=ixOf_some hx
     subst e
     rw [hp]at hq
     cases hq
     exact hc hqc.symm
    simp only [Option.map_some,Option.some.injEq]
    split <;> split <;> omega
def DropDone (w:World)(C:Nat→Prop)(B:Nat)(bef aft:Int)(l:List SRow)(c:Yd.Acc)(made:Int)(N m:Nat)(e:Ending)(w':World):Prop :=
 e=.returned (.tuple #[])∧Beside C w w'∧∃ kv' tv',Book w' C B bef aft l c made N kv' tv' m
structure Laying (w4 wr:World)(m N:Nat)(l':List SRow)(k r:Nat):Prop where
 places:Places wr m (N+r) (ixAt l' k r)
 grown:w4.grownBy wr (some m)
theorem drop_calls {w:World}{C:Nat→Prop}{B:Nat}{bef aft:Int}{l:List SRow}{c:Yd.Acc}{made:Int}{N:Nat}{kv tv:Value}{m:Nat}(h:Book w C B bef aft l c made N kv tv m)
  (code:Code) (hs:code.size≤maxLen) {k:Nat} {p:SRow} (hk:ixOf l code=some k) (hp:l[k]? = some p) (hN:N+10≤1000000) :
  Calls Try.prog 104 #[.pointer (some ⟨B,2,none⟩),Zs code] w (DropDone w C B bef aft (l.eraseIdx k) c made (N+10) m):=by
 have hkl:k<l.length:=(List.getElem?_eq_some_iff.1 hp).1
 have hpc:p.1.code=code:=by
  obtain⟨p',hp',e⟩:=ixOf_some hk
  rw [hp]at hp';cases hp';exact e
 have hfew:=h.few
 obtain⟨n,hn⟩:∃ n,l.length=n+1:=⟨l.length-1,by omega⟩
 obtain⟨gk,ck,hkv,hck⟩:∃ g cap,kv=Zl (some ⟨g,0,none⟩) (n+1) cap∧¬ cap=k:=by
  obtain⟨g,cap,_,h1,_,h2,_⟩:=row_block h.keys (by omega)
  rw [hn]at h1 h2
  exact⟨g,cap,h1,by omega⟩
 obtain⟨gt,ct,htv⟩:∃ g cap,tv=Zl (some ⟨g,0,none⟩) (n+1) cap:=by
  obtain⟨g,cap,_,h1,_⟩:=row_block h.things (by omega)
  rw [hn]at h1
  exact⟨g,cap,h1⟩
 subst hkv htv
 have k2:=h.blk.at 2 (Zl (some ⟨gk,0,none⟩) (n+1) ck) rfl
 have k3:=h.blk.at 3 (Zl (some ⟨gt,0,none⟩) (n+1) ct) rfl
 have k4:=h.blk.at 4 (.map (some m)) rfl
 have hlk:=h.places.look1 hs (T:=87) Try.underlying87 hk
 have hK:=h.keys
 have hT:=h.things
 rw [hn]at hK hT
 have hk1:k<n+1:=by omega
 have hgB:B≠m:=fun e=>by subst e;exact h.places.noBlk h.blk
 have H:=Zh h
 have HK:=Zh hK
 have HT:=Zh hT
 have HP:=Zh hp
 have HN:=Zh hn
 have HS:=Zh hs
 have HPC:=Zh hpc
 have HNN:=Zh hN
 have hB:=h.blk.lt
 have hk0:(0:Int)≤(k:Int):=by omega
 have hk2:(k:Int)≤(n:Int):=by omega
 have hn8:(n:Int)+1≤8:=by omega
 clear h hp hpc hn hs hN hkl hfew hk hK hT
 go_enter Try.func104,Try.ntmps104
 go_wp2_with (first
  | (at_delete;refine wpList_places_drop rfl (.tmp 16) (.tmp 17) 87 rfl Try.underlying87 rfl H.out.places rfl HS.out ?_;intro w1 hp1 hg1;have HP1:=Zh hp1;have HB1:=Zh ((Beside.refl C w).grown hg1 (fun r e=>(by cases e;exact .inl H.out.inM)));have HK1:=Zh (row_grown HK.out hg1 (row_notMap HK.out H.out.places));have HT1:=Zh (row_grown HT.out hg1 (row_notMap HT.out H.out.places));have HF1:=Zh (fun p hp=>row_grown (H.out.froms p hp) hg1 (row_notMap (H.out.froms p hp) H.out.places));have HBK1:=Zh (H.out.blk.grown hg1 (fun e=>hgB (by cases e;rfl)));have k2:=HBK1.out.at 2 (Zl (some ⟨gk,0,none⟩) (n+1) ck) rfl;have hB1:=HBK1.out.lt;clear hp1 hg1)
  | (go_at_call 109;refine(del_str HK1.out hk1 (by omega) (ones_codes l)).mono ?_;rintro e w2 ⟨rfl,hk2',hg2⟩;have HK2:=Zh hk2';have HG2:=Zh hg2;have HBK2:=Zh (HBK1.out.grown hg2 (HBK1.out.notRow HK1.out (by decide)));have k2:=HBK2.out.at 2 (Zl (some ⟨gk,0,none⟩) (n+1) ck) rfl;have f2:=HBK2.out.frozen 2;have k3:=HBK2.out.at 3 (Zl (some ⟨gt,0,none⟩) (n+1) ct) rfl;have hB2:=HBK2.out.lt;have HT2:=Zh (row_setCell (row_grown HT1.out hg2 (row_notRow HT1.out HK1.out (by decide))) HBK2.out (by decide) 2 (Zl (some ⟨gk,0,none⟩) n ck));clear hk2' hg2)
  | (go_at_call 110;refine(del_stk HT2.out hk1 (by omega) (ones_rows (fun p hp=>row_slice (H.out.froms p hp)))).mono ?_;rintro e w3 ⟨rfl,ht3,hg3⟩;have HT3:=Zh ht3;have HG3:=Zh hg3;have HBK3:=Zh ((show Blk (w2.setCell ⟨B,2,none⟩ (Zl (some ⟨gk,0,none⟩) n ck)) B 91 (bookCells bef aft (Zl (some ⟨gk,0,none⟩) n ck) (Zl (some ⟨gt,0,none⟩) (n+1) ct) m c made).toArray from HBK2.out.set_ 2 _).grown hg3 ((show Blk (w2.setCell ⟨B,2,none⟩ (Zl (some ⟨gk,0,none⟩) n ck)) B 91 (bookCells bef aft (Zl (some ⟨gk,0,none⟩) n ck) (Zl (some ⟨gt,0,none⟩) (n+1) ct) m c made).toArray from HBK2.out.set_ 2 _).notRow HT2.out (by decide)));have k3':=HBK3.out.at 3 (Zl (some ⟨gt,0,none⟩) (n+1) ct) rfl;have f3:=HBK3.out.frozen 3;have k2':=HBK3.out.at 2 (Zl (some ⟨gk,0,none⟩) n ck) rfl;have hB3:=HBK3.out.lt;clear ht3 hg3))
 have HP2:=Zh ((HP1.out.grown HG2.out (HP1.out.notRow HK1.out)).setCell HBK2.out 2 (Zl (some ⟨gk,0,none⟩) n ck))
 have HF2:=Zh (fun p hp=>row_setCell (row_grown (HF1.out p hp) HG2.out (row_notRow (HF1.out p hp) HK1.out (by decide))) HBK2.out (by decide) 2 (Zl (some ⟨gk,0,none⟩) n ck))
 have HK2':=Zh (row_setCell HK2.out HBK2.out (by decide) 2 (Zl (some ⟨gk,0,none⟩) n ck))
 have HB2:=Zh ((HB1.out.grown HG2.out (fun r e=>by cases e;exact .inl (H.out.inK _ rfl))).setCell (p:=⟨B,2,none⟩) (.inl H.out.inB) (Zl (some ⟨gk,0,none⟩) n ck))
 have HP3:=Zh ((HP2.out.grown HG3.out (HP2.out.notRow HT2.out)).setCell HBK3.out 3 (Zl (some ⟨gt,0,none⟩) n ct))
 have HF3:=Zh (fun p hp=>row_setCell (row_grown (HF2.out p hp) HG3.out (row_notRow (HF2.out p hp) HT2.out (by decide))) HBK3.out (by decide) 3 (Zl (some ⟨gt,0,none⟩) n ct))
 have HK3:=Zh (row_setCell (row_grown HK2'.out HG3.out (row_notRow HK2'.out HT2.out (by decide))) HBK3.out (by decide) 3 (Zl (some ⟨gt,0,none⟩) n ct))
 have HT3':=Zh (row_setCell HT3.out HBK3.out (by decide) 3 (Zl (some ⟨gt,0,none⟩) n ct))
 have HB3:=Zh ((HB2.out.grown HG3.out (fun r e=>by cases e;exact .inl (H.out.inT _ rfl))).setCell (p:=⟨B,3,none⟩) (.inl H.out.inB) (Zl (some ⟨gt,0,none⟩) n ct))
 have HBK4:=Zh (p:=Blk (w3.setCell ⟨B,3,none⟩ (Zl (some ⟨gt,0,none⟩) n ct)) B 91 (bookCells bef aft (Zl (some ⟨gk,0,none⟩) n ck) (Zl (some ⟨gt,0,none⟩) n ct) m c made).toArray) (HBK3.out.set_ 3 _)
 have HNC:=Zh (H.out.codes)
 have HLE:=Zh (show(l.eraseIdx k).length=n by rw [List.length_eraseIdx,if_pos (by rw [HN.out];exact hk1),HN.out];omega)
 have HP4:=Zh (HP3.out.ext (fun c'=>show _=ixAt (l.eraseIdx k) k 0 c' by rw [← HPC.out];exact ixAt_start HNC.out HP.out c'))
 have HSZ:=Zh H.out.sizes
 rw [codes_erase]at HK3
 rw [rows_erase]at HT3'
 clear k2 k3 k4 hlk f2 k3' f3 k2' hB hB1 hB2 HP1 HP2 HP3 HF1 HF2 HK1 HK2 HK2' HT1 HT2 HT3 HB1 HB2 HBK1 HBK2 HBK3 HG2 HG3 HK HT
 generalize World.setCell _ _ _=w4 at *
 go_loopw [47] (fun i wr => ∃ r:Nat,r≤n-k∧i=Z O r∧Hid (Laying w4 wr m N (l.eraseIdx k) k r)) (fun i _=>n-k-(intOf i).toNat)
 case atStart=>exact⟨0,Nat.zero_le _,rfl,Zh ⟨HP4.out,⟨rfl,rfl,rfl,Nat.le_refl _,fun _ _ _=>rfl⟩⟩⟩
 case round =>
  obtain⟨r,hr,rfl,HY⟩:=hrel
  have HBR:=Zh (HBK4.out.grown HY.out.grown (fun e=>hgB (by cases e;rfl)))
  have HKR:=Zh (row_grown HK3.out HY.out.grown (row_notMap HK3.out HP4.out))
  by_cases hlt:r<n-k
  ·have hqx:∃ q,(l.eraseIdx k)[k+r]? = some q:=⟨_,List.getElem?_eq_getElem (by rw [HLE.out];omega)⟩
   obtain⟨q,hq⟩:=hqx
   have HQ:=Zh hq
   have k4:=HBR.out.at 4 (.map (some m)) rfl
   have cq:wr.cell? ⟨gk,k+r,none⟩=some (Zs q.1.code):=by
    rw [World.ownsRow.cellAt HKR.out (k+r) (by omega)]
    unfold codeCells
    rw [List.getElem?_map,HQ.out]
    rfl
   have HQS:=Zh (p:=q.1.code.size≤maxLen) (HSZ.out q ((List.eraseIdx_sublist l k).subset (List.mem_of_getElem? HQ.out)))
   have hlt':(r:Int)<((n-k:Nat):Int):=by omega
   have hr0:(0:Int)≤(r:Int):=by omega
   have hnk:((n-k:Nat):Int)≤8:=by omega
   clear hq
   go_wp2_with ((at_mapUpdate;refine wpList_places_put rfl (.tmp 55) (.tmp 56) (.tmp 59) 87 rfl Try.underlying87 rfl HY.out.places rfl HQS.out (by have:=HNN.out;unfold maxLen;omega) (k:=k+r) rfl (by omega) ?_);intro w5 hp5 hg5;have HY5:=Zh (p:=Laying w4 w5 m N (l.eraseIdx k) k (r+1)) (⟨hp5.ext (fun c'=>ixAt_step (HNC.out.sublist ((List.eraseIdx_sublist l k).map _)) HQ.out c'),World.grownBy.trans HY.out.grown hg5⟩);clear hp5 hg5)
   go_roundw
   case rel=>exact⟨r+1,by omega,by go_num,HY5⟩
   case measure=>simp [intOf];omega
  ·have hlt':¬ (r:Int)<((n-k:Nat):Int):=by omega
   go_wp2
   go_end0
   refine⟨rfl,HB3.out.grown HY.out.grown (fun r' e=>by cases e;exact .inl H.out.inM),Zl (some ⟨gk,0,none⟩) n ck,Zl (some ⟨gt,0,none⟩) n ct,?_⟩
   have hsub:=List.eraseIdx_sublist l k
   refine⟨HBR.out,by rw [HLE.out];exact HKR.out,by rw [HLE.out];exact row_grown HT3'.out HY.out.grown (row_notMap HT3'.out HP4.out),(HY.out.places.mono (by omega)).ext (fun c'=>ixAt_end _ _ _ (by rw [HLE.out];omega) c'),H.out.inB,fun g hg=>(by cases hg;exact H.out.inK _ rfl),fun g hg=>(by cases hg;exact H.out.inT _ rfl),H.out.inM,
    fun q hq=>row_grown (HF3.out q (hsub.subset hq)) HY.out.grown (row_notMap (HF3.out q (hsub.subset hq)) HP4.out),fun q hq=>H.out.fromsLen q (hsub.subset hq),HNC.out.sublist (hsub.map _),fun q hq=>HSZ.out q (hsub.subset hq),by rw [HLE.out];omega,HNN.out⟩
theorem keep_old {w:World}{C:Nat→Prop}{B:Nat}{bef aft:Int}{l:List SRow}{c:Yd.Acc}{made:Int}{N:Nat}{kv tv:Value}{m:Nat}(h:Book w C B bef aft l c made N kv tv m)
  (x:Stk Code) (fa:Option Addr) (fn fc:Nat) {k:Nat} {p:SRow} (hp:l[k]? = some p) (hk:ixOf l x.code=some k) (hc:x.code=p.1.code) (hq:w.ownsRow 0 3 1 (Zl fa fn fc) x.src.length (intCells x.src)) (hl:x.src.length≤1000) :
  Calls Try.prog 93 #[.pointer (some ⟨B,0,none⟩),.agg #[Zs x.code,Z O x.dry.lo,Z O x.dry.hi,Z O x.water.lo,Z O x.water.hi,Z O x.piled,Z O x.boiled,Zl fa fn fc]] w fun e w'=>e=.returned (.tuple #[])∧Beside C w w'∧Book w' C B bef aft (l.set k (x,Zl fa fn fc)) c made N kv tv m:=by
 have HS:=Zh (Blk.new w 49 #[Zs x.code,Z O x.dry.lo,Z O x.dry.hi,Z O x.water.lo,Z O x.water.hi,Z O x.piled,Z O x.boiled,Zl fa fn fc])
 have H0:=Zh (h.alloc (.cells #[Zs x.code,Z O x.dry.lo,Z O x.dry.hi,Z O x.water.lo,Z O x.water.hi,Z O x.piled,Z O x.boiled,Zl fa fn fc] 49))
 have HB0:=Zh (p:=Beside C w (w.alloc (.cells #[Zs x.code,Z O x.dry.lo,Z O x.dry.hi,Z O x.water.lo,Z O x.water.hi,Z O x.piled,Z O x.boiled,Zl fa fn fc] 49))) ((Beside.refl C w).alloc _)
 have HQ:=Zh (hq.alloc (.cells #[Zs x.code,Z O x.dry.lo,Z O x.dry.hi,Z O x.water.lo,Z O x.water.hi,Z O x.piled,Z O x.boiled,Zl fa fn fc] 49))
 have HP:=Zh hp
 have HK:=Zh hk
 have HC:=Zh hc
 have HL:=Zh hl
 clear h hp hk hc hq hl
 go_enter Try.func93,Try.ntmps93
 go_wp2
 generalize World.alloc _ _=W at *
 have s0:=Zg (HS.out.at 0 (Zs x.code) rfl)
 have s1:=Zg (HS.out.at 1 (Z O x.dry.lo) rfl)
 have s2:=Zg (HS.out.at 2 (Z O x.dry.hi) rfl)
 have s3:=Zg (HS.out.at 3 (Z O x.water.lo) rfl)
 have s4:=Zg (HS.out.at 4 (Z O x.water.hi) rfl)
 have s5:=Zg (HS.out.at 5 (Z O x.piled) rfl)
 have s6:=Zg (HS.out.at 6 (Z O x.boiled) rfl)
 have s7:=Zg (HS.out.at 7 (Zl fa fn fc) rfl)
 refine region_split_below 6 (by kernel_rfl) (by kernel_rfl) (by kernel_rfl) ?_
 simp only [List.take_succ_cons,List.take_zero,List.drop_succ_cons,List.drop_zero]
 repeat(go_big_quiet_step (fail))
 refine wpQuiet_nil ?_
 intro w8 hw'
 have hb8:Below W.heap.size W w8:=by obtain⟨⟨dq,osq⟩,hw''⟩:=hw';rw [hw''];exact Zk W dq osq
 clear hw' s0 s1 s2 s3 s4 s5 s6 s7
 have H8:=Zh (H0.out.below hb8)
 have HB8:=Zh (HB0.out.thenBelow hb8)
 have HQ8:=Zh (row_same HQ.out (fun j hj=>hb8.block j (row_lt HQ.out hj)))
 clear hb8 H0 HB0 HQ HS
 go_wp2_with (go_at_call 107;refine(put_old H8.out x fa fn fc HP.out HK.out HC.out HQ8.out HL.out).mono ?_;rintro e w9 ⟨rfl,hb9,hk9⟩;have HB9:=Zh (HB8.out.trans hb9 (fun k hk=>.inl hk));have HK9:=Zh hk9;clear hb9 hk9)
 go_end0
 exact⟨rfl,HB9.out,HK9.out⟩
theorem keep_new {w:World}{C:Nat→Prop}{B:Nat}{bef aft:Int}{l:List SRow}{c:Yd.Acc}{made:Int}{N:Nat}{kv tv:Value}{m:Nat}(h:Book w C B bef aft l c made N kv tv m)
  (x:Stk Code) (fa:Option Addr) (fn fc:Nat) (hs:x.code.size≤maxLen) (hn:ixOf l x.code=none) (h8:l.length<8) (hq:w.ownsRow 0 3 1 (Zl fa fn fc) x.src.length (intCells x.src)) (hl:x.src.length≤1000) (hN:N<1000000) :
  Calls Try.prog 93 #[.pointer (some ⟨B,0,none⟩),.agg #[Zs x.code,Z O x.dry.lo,Z O x.dry.hi,Z O x.water.lo,Z O x.water.hi,Z O x.piled,Z O x.boiled,Zl fa fn fc]] w (PutDone w C B bef aft (l++[(x,Zl fa fn fc)]) c made (N+1) m):=by
 have HS:=Zh (Blk.new w 49 #[Zs x.code,Z O x.dry.lo,Z O x.dry.hi,Z O x.water.lo,Z O x.water.hi,Z O x.piled,Z O x.boiled,Zl fa fn fc])
 have H0:=Zh (h.alloc (.cells #[Zs x.code,Z O x.dry.lo,Z O x.dry.hi,Z O x.water.lo,Z O x.water.hi,Z O x.piled,Z O x.boiled,Zl fa fn fc] 49))
 have HB0:=Zh (p:=Beside C w (w.alloc (.cells #[Zs x.code,Z O x.dry.lo,Z O x.dry.hi,Z O x.water.lo,Z O x.water.hi,Z O x.piled,Z O x.boiled,Zl fa fn fc] 49))) ((Beside.refl C w).alloc _)
 have HQ:=Zh (hq.alloc (.cells #[Zs x.code,Z O x.dry.lo,Z O x.dry.hi,Z O x.water.lo,Z O x.water.hi,Z O x.piled,Z O x.boiled,Zl fa fn fc] 49))
 have HP:=Zh hs
 have HK:=Zh hn
 have HC:=Zh h8
 have HL:=Zh hl
 have HN:=Zh hN
 clear h hs hn h8 hq hl hN
 go_enter Try.func93,Try.ntmps93
 go_wp2
 generalize World.alloc _ _=W at *
 have s0:=Zg (HS.out.at 0 (Zs x.code) rfl)
 have s1:=Zg (HS.out.at 1 (Z O x.dry.lo) rfl)
 have s2:=Zg (HS.out.at 2 (Z O x.dry.hi) rfl)
 have s3:=Zg (HS.out.at 3 (Z O x.water.lo) rfl)
 have s4:=Zg (HS.out.at 4 (Z O x.water.hi) rfl)
 have s5:=Zg (HS.out.at 5 (Z O x.piled) rfl)
 have s6:=Zg (HS.out.at 6 (Z O x.boiled) rfl)
 have s7:=Zg (HS.out.at 7 (Zl fa fn fc) rfl)
 refine region_split_below 6 (by kernel_rfl) (by kernel_rfl) (by kernel_rfl) ?_
 simp only [List.take_succ_cons,List.take_zero,List.drop_succ_cons,List.drop_zero]
 repeat(go_big_quiet_step (fail))
 refine wpQuiet_nil ?_
 intro w8 hw'
 have hb8:Below W.heap.size W w8:=by obtain⟨⟨dq,osq⟩,hw''⟩:=hw';rw [hw''];exact Zk W dq osq
 clear hw' s0 s1 s2 s3 s4 s5 s6 s7
 have H8:=Zh (H0.out.below hb8)
 have HB8:=Zh (HB0.out.thenBelow hb8)
 have HQ8:=Zh (row_same HQ.out (fun j hj=>hb8.block j (row_lt HQ.out hj)))
 clear hb8 H0 HB0 HQ HS
 go_wp2_with (go_at_call 107;refine(put_new H8.out x fa fn fc HP.out HK.out HC.out HQ8.out HL.out HN.out).mono ?_;rintro e w9 ⟨rfl,hb9,kv',tv',hk9⟩;have HB9:=Zh (HB8.out.trans hb9 (fun k hk=>.inl hk));have HK9:=Zh hk9;clear hb9 hk9)
 go_end0
 refine⟨rfl,HB9.out,kv',tv',HK9.out.wide (fun k hk=>?_)⟩
 rcases hk with hk | hk
 ·exact .inl hk
 ·exact .inr (Nat.le_trans HB8.out.size hk)
def mg:List Int→List Int→List Int
 | [],[] => []
 | [],b :: m=>b :: mg m []
 | a :: l,[] => a :: mg l []
 | a :: l,b :: m=>if b<a then b :: mg m (a :: l)else a :: mg l (b :: m)
termination_by l m=>l.length+m.length
theorem mg_length (l m:List Int):(mg l m).length=l.length+m.length:=by
 fun_induction mg l m with
 | case1=>rfl
 | case2 b m ih=>simp only [List.length_cons,ih,List.length_nil];first | done | omega
 | case3 a l ih=>simp only [List.length_cons,ih,List.length_nil];first | done | omega
 | case4 a l b m h ih=>simp only [List.length_cons,ih];omega
 | case5 a l b m h ih=>simp only [List.length_cons,ih];omega
theorem mem_mg (l m:List Int)(p:Int):p ∈ mg l m↔p ∈ l∨p ∈ m:=by
 fun_induction mg l m with
 | case1=>simp
 | case2 b m ih=>simp [ih]
 | case3 a l ih=>simp [ih]
 | case4 a l b m h ih=>simp only [List.mem_cons,ih];grind
 | case5 a l b m h ih=>simp only [List.mem_cons,ih];grind
def dd (acc:List Int)(x:Int):List Int:=if acc.getLast? = some x then acc else acc++[x]
def Asc (l:List Int):Prop:=l.Pairwise (· < ·)
theorem mg_sorted (l m:List Int):Asc l→Asc m→(mg l m).Pairwise (·≤·):=by
 fun_induction mg l m with
 | case1=>intro _ _;exact .nil
 | case2 b m ih =>
   intro _ hm
   have hm':=List.pairwise_cons.1 hm
   refine .cons (fun y hy=>?_) (ih hm'.2 .nil)
   rw [mem_mg]at hy
   rcases hy with hy | hy
   ·have:=hm'.1 y hy;omega
   ·simp at hy
 | case3 a l ih =>
   intro hl _
   have hl':=List.pairwise_cons.1 hl
   refine .cons (fun y hy=>?_) (ih hl'.2 .nil)
   rw [mem_mg]at hy
   rcases hy with hy | hy
   ·have:=hl'.1 y hy;omega
   ·simp at hy
 | case4 a l b m h ih =>
   intro hl hm
   have hl':=List.pairwise_cons.1 hl
   have hm':=List.pairwise_cons.1 hm
   refine .cons (fun y hy=>?_) (ih hm'.2 hl)
   rw [mem_mg]at hy
   rcases hy with hy | hy
   ·have:=hm'.1 y hy;omega
   ·rcases List.mem_cons.1 hy with rfl | hy
    ·omega
    ·have:=hl'.1 y hy;omega
 | case5 a l b m h ih =>
   intro hl hm
   have hl':=List.pairwise_cons.1 hl
   have hm':=List.pairwise_cons.1 hm
   refine .cons (fun y hy=>?_) (ih hl'.2 hm)
   rw [mem_mg]at hy
   rcases hy with hy | hy
   ·have:=hl'.1 y hy;omega
   ·rcases List.mem_cons.1 hy with rfl | hy
    ·omega
    ·have:=hm'.1 y hy;omega
theorem fold_dd:∀(s acc:List Int),s.Pairwise (·≤·)→Asc acc→(∀ x ∈ acc,∀ y ∈ s,x≤y)→Asc (s.foldl dd acc)∧∀ p,p ∈ s.foldl dd acc↔p ∈ acc∨p ∈ s
 | [],acc,_,ha,_=>⟨ha,fun p=>by simp⟩
 | x :: s,acc,hs,ha,hx=>by
   have hs':=List.pairwise_cons.1 hs
   by_cases h:acc.getLast? = some x
   ·have e:dd acc x=acc:=if_pos h
    rw [List.foldl_cons,e]
    have hmem:x ∈ acc:=List.mem_of_getLast? h
    obtain⟨h1,h2⟩:=fold_dd s acc hs'.2 ha (fun y hy z hz=>hx y hy z (by simp [hz]))
    refine⟨h1,fun p=>?_⟩
    rw [h2]
    simp only [List.mem_cons]
    grind
   ·have e:dd acc x=acc++[x]:=if_neg h
    rw [List.foldl_cons,e]
    have hlt:∀ y ∈ acc,y<x:=fun y hy=>by
     have h1:=hx y hy x (by simp)
     rcases Int.lt_or_eq_of_le h1 with h2 | h2
     ·exact h2
     ·subst h2
      exfalso
      apply h
      obtain⟨pre,z,rfl⟩:∃ pre z,acc=pre++[z]:=⟨acc.dropLast,acc.getLast (fun e=>by subst e;simp at hy),(List.dropLast_concat_getLast _).symm⟩
      simp only [List.getLast?_append,List.getLast?_singleton,Option.some_or,Option.some.injEq]
      rcases List.mem_append.1 hy with hy | hy
      ·have h3:=(List.pairwise_append.1 ha).2.2 y hy z (by simp)
       have h4:=hx z (by simp) y (by simp)
       omega
      ·rw [List.mem_singleton]at hy;exact hy.symm
    obtain⟨h1,h2⟩:=fold_dd s (acc++[x]) hs'.2 (List.pairwise_append.2 ⟨ha,List.pairwise_singleton _ _,fun a ha' b hb=>by rw [List.mem_singleton]at hb;subst hb;exact hlt a ha'⟩) (fun y hy z hz=>by
     rcases List.mem_append.1 hy with hy | hy
     ·exact hx y hy z (by simp [hz])
     ·rw [List.mem_singleton]at hy;subst hy;exact hs'.1 z hz)
    refine⟨h1,fun p=>?_⟩
    rw [h2]
    simp only [List.mem_append,List.mem_cons]
    grind
theorem asc_ext:∀ {l m:List Int},Asc l→Asc m→(∀ p,p ∈ l↔p ∈ m)→l=m
 | [],[],_,_,_=>rfl
 | [],b :: m,_,_,h=>by have:=(h b).2 (by simp);simp at this
 | a :: l,[],_,_,h=>by have:=(h a).1 (by simp);simp at this
 | a :: l,b :: m,hl,hm,h=>by
   have hl':=List.pairwise_cons.1 hl
   have hm':=List.pairwise_cons.1 hm
   have hab:a=b:=by
    rcases List.mem_cons.1 ((h a).1 (by simp))with h1 | h1
    ·exact h1
    ·rcases List.mem_cons.1 ((h b).2 (by simp))with h2 | h2
     ·exact h2.symm
     ·have:=hm'.1 a h1
      have:=hl'.1 b h2
      omega
   subst hab
   congr 1
   refine asc_ext hl'.2 hm'.2 (fun p=>?_)
   constructor
   ·intro hp
    rcases List.mem_cons.1 ((h p).1 (by simp [hp]))with h1 | h1
    ·subst h1;have:=hl'.1 p hp;omega
    ·exact h1
   ·intro hp
    rcases List.mem_cons.1 ((h p).2 (by simp [hp]))with h1 | h1
    ·subst h1;have:=hm'.1 p hp;omega
    ·exact h1
theorem asc_both (l m:List Int):Asc l→Asc m→Asc (both l m):=by
 fun_induction both l m with
 | case1 m=>intro _ hm;exact hm
 | case2 a l=>intro hl _;exact hl
 | case3 a l b m h ih =>
   intro hl hm
   have hl':=List.pairwise_cons.1 hl
   have hm':=List.pairwise_cons.1 hm
   refine .cons (fun y hy=>?_) (ih hl'.2 hm)
   rw [mem_both]at hy
   rcases hy with hy | hy
   ·exact hl'.1 y hy
   ·rcases List.mem_cons.1 hy with rfl | hy
    ·exact h
    ·have:=hm'.1 y hy;omega
 | case4 a l b m h h' ih =>
   intro hl hm
   have hl':=List.pairwise_cons.1 hl
   have hm':=List.pairwise_cons.1 hm
   refine .cons (fun y hy=>?_) (ih hl hm'.2)
   rw [mem_both]at hy
   rcases hy with hy | hy
   ·rcases List.mem_cons.1 hy with rfl | hy
    ·exact h'
    ·have:=hl'.1 y hy;omega
   ·exact hm'.1 y hy
 | case5 a l b m h h' ih =>
   intro hl hm
   have hab:a=b:=by omega
   subst hab
   have hl':=List.pairwise_cons.1 hl
   have hm':=List.pairwise_cons.1 hm
   refine .cons (fun y hy=>?_) (ih hl'.2 hm'.2)
   rw [mem_both]at hy
   rcases hy with hy | hy
   ·exact hl'.1 y hy
   ·exact hm'.1 y hy
theorem fold_mg {l m:List Int}(hl:Asc l)(hm:Asc m):(mg l m).foldl dd []=both l m:=by
 obtain⟨h1,h2⟩:=fold_dd (mg l m) [] (mg_sorted l m hl hm) .nil (fun x hx=>by simp at hx)
 refine asc_ext h1 (asc_both l m hl hm) (fun p=>?_)
 rw [h2,mem_mg,mem_both]
 simp
end Go.Proofs.Ytgekekhbhkgekaa
