/- The deed's fault and its recovery: the closure that enter defers. A deed is entered. A deed: rest. -/
import Derived.Test.YtgekekhbhkgekaaRYFormOf
import Derived.Tactics
import Derived.Tactics2
import Derived.Defers
import Derived.Recover
import Derived.Laws.Pointers
import Derived.Test.YtgekekhbhkgekaaRYClone
namespace Go.Proofs.Ytgekekhbhkgekaa
open Go Go.RowKit Yd
open _root_.Go.Value renaming int → Z
open _root_.Go.IntKind renaming i64 → O
set_option maxRecDepth 100000
set_option maxHeartbeats 16000000
theorem fault_type:Try.prog.underlying 110=some (.int .i64):=by kernel_rfl
theorem assert_fault (n:Int)(w:World):(Instr.typeAssert (.iface 110 (Z O n)) 20 110 true).run Try.prog w=.ok (.tuple #[Z O n,.bool true]) w:=by
 simp [Instr.typeAssert,run_underlying fault_type,go_sem,Result.andThen]
theorem assert_none (w:World):(Instr.typeAssert .nilIface 20 110 true).run Try.prog w=.ok (.tuple #[Z O 0,.bool false]) w:=by
 simp [Instr.typeAssert,run_underlying fault_type,go_sem,Result.andThen]
theorem catch_fault (p:Addr)(x:Int)(n:Int)(older:List PanicEntry)(w:World)(hc:w.cell? p=some (Z O x))(hz:w.frozen? p=false) :
  CallsD Try.prog 62 #[.pointer (some p)] (.panicking ({ v:=.iface 110 (Z O n),recovered:=false } :: older)) w fun e u' w' =>
   e=.returned (.tuple #[])∧u'=.panicking ({ v:=.iface 110 (Z O n),recovered:=true } :: older)∧w'=w.setCell p (Z O n):=by
 refine callsD_of_wpS Try.func62 rfl fun c₀ cs hu=>?_
 simp only [Try.ntmps62,List.size_toArray,List.length_cons,List.length_nil,Nat.reduceAdd,Nat.reduceSub,Array.replicate_succ,Array.replicate_zero,List.push_toArray,List.append_toArray,List.nil_append,List.cons_append]
 apply wpS_seq
 apply wpS_region
 simp [wpOpsS,go_sem,recoverD,hu,assert_fault,Exit.thenS]
 apply wpS_seq
 apply wpS_region
 simp [wpOpsS,go_sem,Exit.thenS]
 refine wpS_cond (t:=true) (by simp [Act.eval]) ?_
 simp only [if_true]
 apply wpS_region
 simp [wpOpsS,go_sem,hc,hz,bodyPostS,results,Try.results62]
theorem catch_idle (p:Addr)(w:World) :
  CallsD Try.prog 62 #[.pointer (some p)] .returning w fun e u' w'=>e=.returned (.tuple #[])∧u'=.returning∧w'=w:=by
 refine callsD_of_wpS Try.func62 rfl fun c₀ cs hu=>?_
 simp only [Try.ntmps62,List.size_toArray,List.length_cons,List.length_nil,Nat.reduceAdd,Nat.reduceSub,Array.replicate_succ,Array.replicate_zero,List.push_toArray,List.append_toArray,List.nil_append,List.cons_append]
 apply wpS_seq
 apply wpS_region
 simp [wpOpsS,go_sem,recoverD,hu,assert_none,Exit.thenS]
 apply wpS_seq
 apply wpS_region
 simp [wpOpsS,go_sem,Exit.thenS]
 refine wpS_cond (t:=false) (by simp [Act.eval]) ?_
 simp only [Bool.false_eq_true,if_false]
 refine wpS_of_wp (wp_skip ?_)
 cases c₀
 simp_all [bodyPostS,results,Try.results62]
end Go.Proofs.Ytgekekhbhkgekaa
namespace Go.Proofs.Ytgekekhbhkgekaa
open Go Go.RowKit Go.Shelf Yd
open _root_.Go.Value renaming int → Z, string → Zs, slice → Zl
open _root_.Go.IntKind renaming i64 → O
open _root_.Go.Lib renaming hid → Zh
set_option maxRecDepth 100000
set_option maxHeartbeats 16000000
def Entered (w:World)(C:Nat→Prop)(B:Nat)(bef aft:Int)(ss:List (Stk Code))(c:Yd.Acc)(made:Int)(N m:Nat)(e:Ending)(w':World):Prop :=
 e=.returned (Z O 0)∧Beside C w w'∧∃(rows:List SRow) (kv' tv':Value),rows.map (·.1)=ss∧Book w' (Wide C w) B bef aft rows c made N kv' tv' m
theorem Book.far {w:World}{C:Nat→Prop}{B:Nat}{bef aft:Int}{l:List SRow}{c:Yd.Acc}{made:Int}{N:Nat}{kv tv:Value}{m:Nat}{g:Nat}{t:TypeId}{cs:Array Value}(hg:Blk w g t cs)(ht:t=37)(o:Nat)(v:Value)
  (h:Book w C B bef aft l c made N kv tv m):Book (w.setCell ⟨g,o,none⟩ v) C B bef aft l c made N kv tv m:=by
 subst ht
 refine⟨h.blk.far (p:=⟨g,o,none⟩) (fun e=>?_) v,row_setCell h.keys hg (by decide) o v,row_setCell h.things hg (by decide) o v,h.places.setCell hg o v,h.inB,h.inK,h.inT,h.inM,fun p hp=>row_setCell (h.froms p hp) hg (by decide) o v,h.fromsLen,h.codes,h.sizes,h.few,h.room⟩
 have hb:=h.blk
 simp only at e
 rw [e]at hb
 have:=hb.symm.trans hg
 simp at this
theorem enter_done {w:World}{C:Nat→Prop}{B:Nat}{bef aft:Int}{l:List SRow}{c:Yd.Acc}{made:Int}{N:Nat}{kv tv:Value}{m:Nat}(h:Book w C B bef aft l c made N kv tv m)(hC:∀ k,C k→k<w.heap.size)
  (k:Nat) (hk:k<8) (kind day:Int) (hkd:kind=((k+1:Nat):Int)) (code other:Code) (al ah bl bh:Int) (hmd:0≤made∧made≤1000000) {ss:List (Stk Code)} {c':Yd.Acc} {N':Nat}
  (hen:∀ args w,(callFunc (fDo (k+1)) args).run Try.prog w=.ok (.enter (fDo (k+1)) args) w)
  (hdo:∀ W,Book W C B bef aft l c made N kv tv m→(∀ k,C k→k<W.heap.size)→Calls Try.prog (fDo (k+1)) #[.pointer (some ⟨B,0,none⟩),.agg #[Z O kind,Z O day,Zs code,Zs other,Z O al,Z O ah,Z O bl,Z O bh]] W (DeedDone W C B bef aft ss c' made N' m)) :
  Calls Try.prog 42 #[.pointer (some ⟨B,0,none⟩),.agg #[Z O kind,Z O day,Zs code,Zs other,Z O al,Z O ah,Z O bl,Z O bh]] w (Entered w C B bef aft ss c' (made+1) N' m):=by
 have hmf:∀(fn:Fn) (first cap:Array Value) (w:World),(Instr.makeFunc fn first cap).run Try.prog w=.ok (.func fn first cap) w:=fun _ _ _ _=>rfl
 have HDO:=Zh hdo
 have HC:=Zh hC
 have HB:=Zh h
 have HKD:=Zh hkd
 obtain⟨s,hs⟩:∃ s:ByteArray,s=⟨(fWord (k+1)).toArray⟩:=⟨_,rfl⟩
 obtain⟨b,hb⟩:∃ b,b=fOther (k+1):=⟨_,rfl⟩
 obtain⟨mn,hmn⟩:∃ n,n=(fMost (k+1)).length:=⟨_,rfl⟩
 obtain⟨F,hF⟩:∃ n,n=fDo (k+1):=⟨_,rfl⟩
 rw [← hF]at hen HDO
 have HSS:=Zh hs;have HBB:=Zh hb;have HMN:=Zh hmn;have HFF:=Zh hF
 clear hdo hC h hkd hs hb hmn hF
 obtain⟨hm0,hm1⟩:=hmd
 have HD1:=Zh ((boxed_deed HB.out HC.out [Z O kind,Z O day,Zs code,Zs other,Z O al,Z O ah,Z O bl,Z O bh]).alloc 37 [Z O 0] (g:=w.heap.size+1) (World.size_alloc _ _))
 go_enter_defers Try.func42,Try.ntmps42
 go_wp2_with (first
  | (go_at_call 63;refine(formOf_yes k hk kind HKD.out).mono ?_;rintro e w1 ⟨ma,rfl,hb1,_,_⟩;rw [← HKD.out,← HSS.out,← HBB.out,← HMN.out,← HFF.out];have HD2:=Zh (HD1.out.below hb1);clear hb1;have d0:=HD2.out.at 0 0 (v:=Z O kind) rfl rfl;have d1:=HD2.out.at 0 1 (v:=Z O day) rfl rfl;have d2:=HD2.out.at 0 2 (v:=Zs code) rfl rfl;have d3:=HD2.out.at 0 3 (v:=Zs other) rfl rfl;have d4:=HD2.out.at 0 4 (v:=Z O al) rfl rfl;have d5:=HD2.out.at 0 5 (v:=Z O ah) rfl rfl;have d6:=HD2.out.at 0 6 (v:=Z O bl) rfl rfl;have d7:=HD2.out.at 0 7 (v:=Z O bh) rfl rfl;have hz1:w.heap.size<w1.heap.size:=(HD2.out.far 0 rfl).2.1)
  | fail)
 have HD3:=Zh (HD2.out.alloc 114 [Z O kind,Zs s,.bool b,Zl ma mn mn,.func (.func F) #[] #[]] rfl)
 clear d0 d1 d2 d3 d4 d5 d6 d7
 go_wp2_with (refine(HDO.out _ HD3.out.book (fun j hj=>Nat.lt_of_lt_of_le (HC.out j hj) HD3.out.beside.size)).mono ?_;rintro e w3 ⟨rfl,hbs,rows,kv',tv',hrows,hk3⟩;have HBS:=Zh hbs;have HRW:=Zh hrows;have HK3:=Zh hk3;have HF3:=Zh (hbs.blk (HD3.out.loc 1 _ _ _ rfl).1 (HD3.out.far 1 rfl).2.2.1);have hBF:B≠w.heap.size+1:=Ne.symm (HD3.out.far 1 rfl).2.2.2;have q17:=hk3.blk.at 17 (Z O made) rfl;have f17:=hk3.blk.frozen 17;have HF4:=Zh (HF3.out.far (p:=⟨B,17,none⟩) (Ne.symm hBF) (Z O (made+1)));have q0:=HF4.out.at 0 _ rfl;have f0:=HF4.out.frozen 0;clear hbs hrows hk3)
 refine leaves_cons (f:=62) (args:=#[.pointer (some ⟨w.heap.size+1,0,none⟩)]) (by simp) (by simp [go_sem]) ?_
 refine(catch_idle ⟨w.heap.size+1,0,none⟩ _).mono ?_
 rintro e u' w'' ⟨rfl,rfl,rfl⟩
 have hkB:=HK3.out.setOwn [Z O bef,Z O aft,kv',tv',.map (some m),Z O c'.vapour.lo,Z O c'.vapour.hi,Z O c'.broth.lo,Z O c'.broth.hi,Z O c'.dust.lo,Z O c'.dust.hi,Z O c'.soldDry.lo,Z O c'.soldDry.hi,Z O c'.soldWater.lo,Z O c'.soldWater.hi,Z O c'.soaked.lo,Z O c'.soaked.hi] [Z O made] [] [Z O (made+1)] (c':=c') (made':=made+1) rfl rfl rfl
 have hkB:Book (w3.setCell ⟨B,17,none⟩ (Z O (made+1))) _ B bef aft rows c' (made+1) N' kv' tv' m:=hkB
 have hF5:=HF4.out.set_ 0 (Z O 0)
 have hres:=hF5.at 0 (Z O 0) rfl
 have hB5:Beside C w ((w3.setCell ⟨B,17,none⟩ (Z O (made+1))).setCell ⟨w.heap.size+1,0,none⟩ (Z O 0)) :=
  (((HD3.out.beside.mono (C1:=C) (fun _ f=>f.elim)).trans HBS.out (fun k hk=>.inl hk)).setCell (p:=⟨B,17,none⟩) (.inl HB.out.inB) _).setCell (p:=⟨w.heap.size+1,0,none⟩) (.inr (Nat.le_succ _)) _
 have hk5:=Book.far HF4.out (by decide) 0 (Z O 0) hkB
 generalize World.setCell _ _ _=W5 at hres hB5 hk5 ⊢
 simp [Leaves,settle,results,Try.results42,go_sem,hres]
 refine⟨rfl,hB5,rows,kv',tv',HRW.out,hk5.wide (fun k hk=>?_)⟩
 rcases hk with hk | hk
 ·exact .inl hk
 ·exact .inr (Nat.le_trans HD3.out.beside.size hk)
theorem enter_fault {w:World}{C:Nat→Prop}{B:Nat}{bef aft:Int}{l:List SRow}{c:Yd.Acc}{made:Int}{N:Nat}{kv tv:Value}{m:Nat}(h:Book w C B bef aft l c made N kv tv m)(hC:∀ k,C k→k<w.heap.size)
  (k:Nat) (hk:k<8) (kind day:Int) (hkd:kind=((k+1:Nat):Int)) (code other:Code) (al ah bl bh:Int) (f:Int)
  (hen:∀ args w,(callFunc (fDo (k+1)) args).run Try.prog w=.ok (.enter (fDo (k+1)) args) w)
  (hdo:∀ W,Book W C B bef aft l c made N kv tv m→(∀ k,C k→k<W.heap.size)→Calls Try.prog (fDo (k+1)) #[.pointer (some ⟨B,0,none⟩),.agg #[Z O kind,Z O day,Zs code,Zs other,Z O al,Z O ah,Z O bl,Z O bh]] W fun e w'=>e=.panicked (faulty f)∧Below W.heap.size W w') :
  Calls Try.prog 42 #[.pointer (some ⟨B,0,none⟩),.agg #[Z O kind,Z O day,Zs code,Zs other,Z O al,Z O ah,Z O bl,Z O bh]] w fun e w'=>e=.returned (Z O f)∧Below w.heap.size w w':=by
 have hmf:∀(fn:Fn) (first cap:Array Value) (w:World),(Instr.makeFunc fn first cap).run Try.prog w=.ok (.func fn first cap) w:=fun _ _ _ _=>rfl
 have HDO:=Zh hdo
 have HC:=Zh hC
 have HB:=Zh h
 have HKD:=Zh hkd
 obtain⟨s,hs⟩:∃ s:ByteArray,s=⟨(fWord (k+1)).toArray⟩:=⟨_,rfl⟩
 obtain⟨b,hb⟩:∃ b,b=fOther (k+1):=⟨_,rfl⟩
 obtain⟨mn,hmn⟩:∃ n,n=(fMost (k+1)).length:=⟨_,rfl⟩
 obtain⟨F,hF⟩:∃ n,n=fDo (k+1):=⟨_,rfl⟩
 rw [← hF]at hen HDO
 have HSS:=Zh hs;have HBB:=Zh hb;have HMN:=Zh hmn;have HFF:=Zh hF
 clear hdo hC h hkd hs hb hmn hF
 have HD1:=Zh ((boxed_deed HB.out HC.out [Z O kind,Z O day,Zs code,Zs other,Z O al,Z O ah,Z O bl,Z O bh]).alloc 37 [Z O 0] (g:=w.heap.size+1) (World.size_alloc _ _))
 go_enter_defers Try.func42,Try.ntmps42
 go_wp2_with (first
  | (go_at_call 63;refine(formOf_yes k hk kind HKD.out).mono ?_;rintro e w1 ⟨ma,rfl,hb1,_,_⟩;rw [← HKD.out,← HSS.out,← HBB.out,← HMN.out,← HFF.out];have HD2:=Zh (HD1.out.below hb1);clear hb1;have d0:=HD2.out.at 0 0 (v:=Z O kind) rfl rfl;have d1:=HD2.out.at 0 1 (v:=Z O day) rfl rfl;have d2:=HD2.out.at 0 2 (v:=Zs code) rfl rfl;have d3:=HD2.out.at 0 3 (v:=Zs other) rfl rfl;have d4:=HD2.out.at 0 4 (v:=Z O al) rfl rfl;have d5:=HD2.out.at 0 5 (v:=Z O ah) rfl rfl;have d6:=HD2.out.at 0 6 (v:=Z O bl) rfl rfl;have d7:=HD2.out.at 0 7 (v:=Z O bh) rfl rfl;have hz1:w.heap.size<w1.heap.size:=(HD2.out.far 0 rfl).2.1)
  | fail)
 have HD3:=Zh (HD2.out.alloc 114 [Z O kind,Zs s,.bool b,Zl ma mn mn,.func (.func F) #[] #[]] rfl)
 clear d0 d1 d2 d3 d4 d5 d6 d7
 go_wp2_with (refine(HDO.out _ HD3.out.book (fun j hj=>Nat.lt_of_lt_of_le (HC.out j hj) HD3.out.beside.size)).mono ?_;rintro e w3 ⟨rfl,hbs⟩;have HD4:=Zh (HD3.out.below hbs);clear hbs)
 refine leaves_cons (f:=62) (args:=#[.pointer (some ⟨w.heap.size+1,0,none⟩)]) (by simp) (by simp [go_sem]) ?_
 refine(catch_fault ⟨w.heap.size+1,0,none⟩ 0 f [] _ (HD4.out.at 1 0 rfl rfl) ((HD4.out.loc 1 _ _ _ rfl).1.frozen 0)).mono ?_
 rintro e u' w'' ⟨rfl,rfl,rfl⟩
 have hres:=((HD4.out.loc 1 _ _ _ rfl).1.set_ 0 (Z O f)).at 0 (Z O f) rfl
 have hB5:=HD4.out.quiet.setCell (p:=⟨w.heap.size+1,0,none⟩) (Nat.le_succ _) (Z O f)
 generalize World.setCell _ _ _=W5 at hres hB5 ⊢
 simp [Leaves,settle,results,Try.results42,go_sem,hres]
 exact hB5
end Go.Proofs.Ytgekekhbhkgekaa
namespace Go.Proofs.Ytgekekhbhkgekaa
open Go Go.RowKit Yd
open _root_.Go.Value renaming int → Z, string → Zs, slice → Zl
open _root_.Go.IntKind renaming i64 → O
open _root_.Go.Lib renaming hid → Zh
open _root_.Nat renaming le_of_ble_eq_true → Zn
open _root_.Go renaming wpList_store_mid → Zw, cell_regrown → Zg, below_regrown → Zk
set_option maxRecDepth 100000
set_option maxHeartbeats 16000000
theorem rest_ok {w:World}{C:Nat→Prop}{B:Nat}{bef aft:Int}{l:List SRow}{c:Yd.Acc}{made:Int}{N:Nat}{kv tv:Value}{m:Nat}(h:Book w C B bef aft l c made N kv tv m)
  (kind day:Int) (code other:Code) (al ah bl bh:Int) (hs:code.size≤maxLen) (hC:∀ k,C k→k<w.heap.size) (dl dh wl wh pil boi:Int) (src:List Int) (fa:Option Addr) (fn fc:Nat) (V:Int) (hV:V≤2000000000000000) {k:Nat} (hk:ixOf l code=some k) (hp:l[k]? = some (⟨code,⟨dl,dh⟩,⟨wl,wh⟩,pil,boi,src⟩,Zl fa fn fc)) (uw:Bd.Up ⟨wl,wh⟩ V) (ua:Bd.Up ⟨al,ah⟩ 1000) (uc:c.vapour.Up V) :
  Calls Try.prog 85 #[.pointer (some ⟨B,0,none⟩),.agg #[Z O kind,Z O day,Zs code,Zs other,Z O al,Z O ah,Z O bl,Z O bh]] w fun e w'=>e=.returned (.tuple #[])∧Beside C w w'∧Book w' C B bef aft (l.set k (⟨code,⟨dl,dh⟩,Bd.left ⟨wl,wh⟩ ⟨al,ah⟩,pil,boi,src⟩,Zl fa fn fc)) { c with vapour:=c.vapour.add (Bd.part ⟨wl,wh⟩ ⟨al,ah⟩) } made N kv tv m:=by
 have HUW:=Zh uw;have HUA:=Zh (up_mono ua (show(1000:Int)≤3000 by decide));have HUC:=Zh uc
 have HUP:=Zh (up_part uw ua);have HV8:=Zh (p:=V≤8000000000000000) (Int.le_trans hV (by decide))
 clear uw ua uc
 obtain⟨p1,hp1⟩:∃ b:Bd,b=Bd.part ⟨wl,wh⟩ ⟨al,ah⟩:=⟨_,rfl⟩
 have Ep1:=Zh hp1;clear hp1
 obtain⟨s1,hs1⟩:∃ b:Bd,b=c.vapour.add p1:=⟨_,rfl⟩
 have Es1:=Zh hs1;clear hs1
 obtain⟨r1,hr1⟩:∃ b:Bd,b=Bd.left ⟨wl,wh⟩ ⟨al,ah⟩:=⟨_,rfl⟩
 have Er1:=Zh hr1;clear hr1
 rw [← Ep1.out]at HUP
 have DK1:=Zh (boxed_deed h hC [Z O kind,Z O day,Zs code,Zs other,Z O al,Z O ah,Z O bl,Z O bh])
 have hz1:(w.alloc (.cells #[Z O kind,Z O day,Zs code,Zs other,Z O al,Z O ah,Z O bl,Z O bh] 55)).heap.size=w.heap.size+1:=World.size_alloc _ _
 have HS:=Zh hs;have HK:=Zh hk;have HP:=Zh hp;have HC:=Zh hC
 clear h hs hk hp hC
 go_enter Try.func85,Try.ntmps85
 go_upto_region 2 with(first
  | (go_at_call 94;refine(stack_yes DK1.out.book code HS.out HK.out HP.out).mono ?_;rintro e w1 ⟨rfl,hb1⟩;have DK2:=Zh ((DK1.out.below hb1).alloc 49 [Zs ⟨#[]⟩,Z O 0,Z O 0,Z O 0,Z O 0,Z O 0,Z O 0,Zl none 0 0] rfl);clear hb1)
  | ((with_reducible refine at_store 49 (.tmp 4) (.tmp 8) ?_);go_must (refine Zw rfl 49 (.tmp 4) (.tmp 8) rfl w1.heap.size 0 #[Zs code,Z O dl,Z O dh,Z O wl,Z O wh,Z O pil,Z O boi,Zl fa fn fc] rfl rfl ((DK2.out.loc 1 _ _ _ rfl).1.there (o:=0) (n:=8) (Zn rfl)) size_stack (by simp [Value.oneCell']) ?_)))
 have hgS:=(DK2.out.far 1 rfl).1
 have DK3:=Zh (p:=Desk w ((w1.alloc (.cells #[Zs ⟨#[]⟩,Z O 0,Z O 0,Z O 0,Z O 0,Z O 0,Z O 0,Zl none 0 0] 49)).setCells w1.heap.size 0 [Zs code,Z O dl,Z O dh,Z O wl,Z O wh,Z O pil,Z O boi,Zl fa fn fc]) (fun _=>False) C B bef aft l c made N kv tv m [(w.heap.size,55,[Z O kind,Z O day,Zs code,Zs other,Z O al,Z O ah,Z O bl,Z O bh]),(w1.heap.size,49,[Zs code,Z O dl,Z O dh,Z O wl,Z O wh,Z O pil,Z O boi,Zl fa fn fc])]) (DK2.out.put 1 0 _ rfl)
 clear DK2
 generalize((w1.alloc (.cells #[Zs ⟨#[]⟩,Z O 0,Z O 0,Z O 0,Z O 0,Z O 0,Z O 0,Zl none 0 0] 49)).setCells w1.heap.size 0 [Zs code,Z O dl,Z O dh,Z O wl,Z O wh,Z O pil,Z O boi,Zl fa fn fc])=W3 at DK3 ⊢
 obtain⟨gD,hgD⟩:∃ g,g=w.heap.size:=⟨_,rfl⟩
 obtain⟨gS,hgS2⟩:∃ g,g=w1.heap.size:=⟨_,rfl⟩
 rw [← hgD,← hgS2]at DK3 ⊢
 have HZ:=Zh (And.intro hgD hgS2)
 clear hgD hgS2 hgS hz1
 simp only [Act.put]
 have q0:=Zg (show W3.cell? ⟨B,5,none⟩=some (Z O c.vapour.lo)from DK3.out.own 5 rfl)
 have q1:=Zg (show W3.cell? ⟨B,6,none⟩=some (Z O c.vapour.hi)from DK3.out.own 6 rfl)
 have q2:=Zg (DK3.out.at 1 3 (v:=Z O wl) rfl rfl)
 have q3:=Zg (DK3.out.at 1 4 (v:=Z O wh) rfl rfl)
 have q4:=Zg (DK3.out.at 0 4 (v:=Z O al) rfl rfl)
 have q5:=Zg (DK3.out.at 0 5 (v:=Z O ah) rfl rfl)
 have k0:∀ d os,Calls Try.prog 96 #[.agg #[Z O wl,Z O wh],.agg #[Z O al,Z O ah]] (Go.Sort.grow (redrawn W3 d) os) fun e w''=>e=.returned (.agg #[Z O p1.lo,Z O p1.hi])∧∃ p:Regrown,w''=Go.Sort.grow (redrawn W3 p.d) p.os:=regrown_calls (fun w=>by exact part_up HUW.out hV (HUA.out) Ep1.out w)
 have k1:∀ d os,Calls Try.prog 95 #[.agg #[Z O c.vapour.lo,Z O c.vapour.hi],.agg #[Z O p1.lo,Z O p1.hi]] (Go.Sort.grow (redrawn W3 d) os) fun e w''=>e=.returned (.agg #[Z O s1.lo,Z O s1.hi])∧∃ p:Regrown,w''=Go.Sort.grow (redrawn W3 p.d) p.os:=regrown_calls (fun w=>by exact sum_up HUC.out HV8.out HUP.out HV8.out Es1.out w)
 refine region_split_below 15 (by kernel_rfl) (by kernel_rfl) (by kernel_rfl) ?_
 simp only [List.take_succ_cons,List.take_zero,List.drop_succ_cons,List.drop_zero]
 repeat(go_big_quiet_step (first|(with_reducible exact k0 _ _)|(with_reducible exact k1 _ _)))
 refine wpQuiet_nil ?_
 intro v0 hw'
 have hb8:Below W3.heap.size W3 v0:=by obtain⟨⟨dq,osq⟩,hw''⟩:=hw';rw [hw''];exact Zk W3 dq osq
 clear hw' q0 q1 q2 q3 q4 q5 k0 k1
 have DK4:=Zh (p:=Desk w v0 (fun _=>False) C B bef aft l c made N kv tv m [(gD,55,[Z O kind,Z O day,Zs code,Zs other,Z O al,Z O ah,Z O bl,Z O bh]),(gS,49,[Zs code,Z O dl,Z O dh,Z O wl,Z O wh,Z O pil,Z O boi,Zl fa fn fc])]) (DK3.out.below hb8)
 clear DK3
 clear hb8
 have HE:=Zh (p:=v0.there B 5 2) (DK4.out.book.blk.there (o:=5) (n:=2) (Zn rfl))
 refine Zw rfl 32 (.tmp 23) (.tmp 20) rfl B 5 #[Z O s1.lo,Z O s1.hi] rfl rfl HE.out size_bounds (by simp [Value.oneCell']) ?_
 change wpList _ _ _ _ _ (v0.setCells B 5 [Z O s1.lo,Z O s1.hi])
 clear HE
 have DK5:=Zh (show Desk w (v0.setCells B 5 [Z O s1.lo,Z O s1.hi]) C C B bef aft l { c with vapour:=s1 } made N kv tv m [(gD,55,[Z O kind,Z O day,Zs code,Zs other,Z O al,Z O ah,Z O bl,Z O bh]),(gS,49,[Zs code,Z O dl,Z O dh,Z O wl,Z O wh,Z O pil,Z O boi,Zl fa fn fc])]from DK4.out.setOwn [Z O bef,Z O aft,kv,tv,.map (some m)] [Z O c.vapour.lo,Z O c.vapour.hi] [Z O c.broth.lo,Z O c.broth.hi,Z O c.dust.lo,Z O c.dust.hi,Z O c.soldDry.lo,Z O c.soldDry.hi,Z O c.soldWater.lo,Z O c.soldWater.hi,Z O c.soaked.lo,Z O c.soaked.hi,Z O made] [Z O s1.lo,Z O s1.hi] rfl rfl rfl (fun _ f=>f.elim))
 clear DK4
 generalize World.setCells _ _ _ _=v1 at DK5 ⊢
 simp only [Act.put]
 go_upto_region 3 with fail
 have q0:=Zg (DK5.out.at 1 3 (v:=Z O wl) rfl rfl)
 have q1:=Zg (DK5.out.at 1 4 (v:=Z O wh) rfl rfl)
 have q2:=Zg (DK5.out.at 0 4 (v:=Z O al) rfl rfl)
 have q3:=Zg (DK5.out.at 0 5 (v:=Z O ah) rfl rfl)
 have k0:∀ d os,Calls Try.prog 97 #[.agg #[Z O wl,Z O wh],.agg #[Z O al,Z O ah]] (Go.Sort.grow (redrawn v1 d) os) fun e w''=>e=.returned (.agg #[Z O r1.lo,Z O r1.hi])∧∃ p:Regrown,w''=Go.Sort.grow (redrawn v1 p.d) p.os:=regrown_calls (fun w=>by exact left_up HUW.out hV HUA.out Er1.out w)
 refine region_seq_below 6 ?_
 simp only [List.take_succ_cons,List.take_zero,List.drop_succ_cons,List.drop_zero]
 repeat(go_big_quiet_step (first|(with_reducible exact k0 _ _)))
 refine wpQuiet_nil ?_
 intro v2 hw'
 have hb8:Below v1.heap.size v1 v2:=by obtain⟨⟨dq,osq⟩,hw''⟩:=hw';rw [hw''];exact Zk v1 dq osq
 clear hw' q0 q1 q2 q3 k0
 have DK6:=Zh (show Desk w v2 C C B bef aft l { c with vapour:=s1 } made N kv tv m [(gD,55,[Z O kind,Z O day,Zs code,Zs other,Z O al,Z O ah,Z O bl,Z O bh]),(gS,49,[Zs code,Z O dl,Z O dh,Z O wl,Z O wh,Z O pil,Z O boi,Zl fa fn fc])]from DK5.out.below hb8)
 clear DK5
 clear hb8
 have HE:=Zh (p:=v2.there gS 3 2) ((DK6.out.loc 1 _ _ _ rfl).1.there (o:=3) (n:=2) (Zn rfl))
 refine Zw rfl 32 (.tmp 29) (.tmp 28) rfl gS 3 #[Z O r1.lo,Z O r1.hi] rfl rfl HE.out size_bounds (by simp [Value.oneCell']) ?_
 change wpList _ _ _ _ _ (v2.setCells gS 3 [Z O r1.lo,Z O r1.hi])
 clear HE
 have DK7:=Zh (show Desk w (v2.setCells gS 3 [Z O r1.lo,Z O r1.hi]) C C B bef aft l { c with vapour:=s1 } made N kv tv m [(gD,55,[Z O kind,Z O day,Zs code,Zs other,Z O al,Z O ah,Z O bl,Z O bh]),(gS,49,[Zs code,Z O dl,Z O dh,Z O r1.lo,Z O r1.hi,Z O pil,Z O boi,Zl fa fn fc])]from DK6.out.setLoc 1 [Zs code,Z O dl,Z O dh] [Z O wl,Z O wh] [Z O pil,Z O boi,Zl fa fn fc] [Z O r1.lo,Z O r1.hi] rfl rfl (by decide))
 clear DK6
 generalize World.setCells _ _ _ _=v3 at DK7 ⊢
 simp only [Act.put]
 have s0:=DK7.out.at 1 0 (v:=Zs code) rfl rfl
 have s1:=DK7.out.at 1 1 (v:=Z O dl) rfl rfl
 have s2:=DK7.out.at 1 2 (v:=Z O dh) rfl rfl
 have s3:=DK7.out.at 1 3 (v:=Z O r1.lo) rfl rfl
 have s4:=DK7.out.at 1 4 (v:=Z O r1.hi) rfl rfl
 have s5:=DK7.out.at 1 5 (v:=Z O pil) rfl rfl
 have s6:=DK7.out.at 1 6 (v:=Z O boi) rfl rfl
 have s7:=DK7.out.at 1 7 (v:=Zl fa fn fc) rfl rfl
 go_wp2_with (go_at_call 93;refine(keep_old DK7.out.book ⟨code,⟨dl,dh⟩,r1,pil,boi,src⟩ fa fn fc HP.out HK.out rfl (row_same (DK7.out.book.froms _ (List.mem_of_getElem? HP.out)) (fun _ _=>rfl)) (DK7.out.book.fromsLen _ (List.mem_of_getElem? HP.out))).mono ?_;rintro e w9 ⟨rfl,hb9,hk9⟩;have HB9:=Zh (DK7.out.beside.trans hb9 (fun k hk=>.inl hk));have HK9:=Zh hk9;clear hb9 hk9)
 go_end0
 have e1:=Er1.out;have e2:=Es1.out;have e3:=Ep1.out
 subst e1 e2 e3
 exact⟨rfl,HB9.out,HK9.out⟩
end Go.Proofs.Ytgekekhbhkgekaa
