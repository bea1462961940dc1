/- What a deed's walk needs: the contracts on bounds, in the walk's own spelling. A region that draws its order: two, or three, operations may come up next. slices.Clone of a row of ints. -/
import Derived.Test.YtgekekhbhkgekaaRYDesk
import Derived.Deep.Cut
import Derived.Deep.DeepCutAuto
import Derived.Deep.CutRange
namespace Go.Proofs.Ytgekekhbhkgekaa
open Go Go.RowKit Yd
open _root_.Go.Value renaming int → Z
open _root_.Go.IntKind renaming i64 → O
open _root_.Go.Lib renaming hid → Zh
set_option maxHeartbeats 16000000
theorem size_bounds:(Try.prog.info? 32).map (·.size)=some 2:=by kernel_rfl
theorem fit_of_up {b:Bd}{n m:Int}(h:b.Up n)(hn:n≤m):Bd.Fit m b:=by
 obtain⟨h1,h2,h3⟩:=h
 exact⟨by omega,by omega,by omega,by omega⟩
theorem Bd.Fit.mono {b:Bd}{n m:Int}(h:Bd.Fit n b)(hn:n≤m):Bd.Fit m b:=by
 obtain⟨h1,h2,h3,h4⟩:=h
 exact⟨by omega,by omega,by omega,by omega⟩
theorem up_nn {b:Bd}{n:Int}(h:b.Up n):0≤b.lo∧0≤b.hi:=by
 obtain⟨h1,h2,h3⟩:=h
 exact⟨h1,by omega⟩
theorem part_up {a b p:Bd}{V:Int}(ha:a.Up V)(hV:V≤2000000000000000)(hb:b.Up 3000)(hp:p=a.part b)(w:World) :
  Calls Try.prog 96 #[.agg #[Z O a.lo,Z O a.hi],.agg #[Z O b.lo,Z O b.hi]] w fun e w'=>e=.returned (.agg #[Z O p.lo,Z O p.hi])∧Below w.heap.size w w':=by
 subst hp
 exact part_calls a b w (fit_of_up ha hV) (fit_of_up hb (by decide)) (up_nn ha) (up_nn hb)
theorem left_up {a b p:Bd}{V:Int}(ha:a.Up V)(hV:V≤2000000000000000)(hb:b.Up 3000)(hp:p=a.left b)(w:World) :
  Calls Try.prog 97 #[.agg #[Z O a.lo,Z O a.hi],.agg #[Z O b.lo,Z O b.hi]] w fun e w'=>e=.returned (.agg #[Z O p.lo,Z O p.hi])∧Below w.heap.size w w':=by
 subst hp
 exact left_calls a b w (fit_of_up ha hV) (fit_of_up hb (by decide)) (up_nn ha) (up_nn hb)
theorem sum_up {a b p:Bd}{V U:Int}(ha:a.Up V)(hV:V≤8000000000000000)(hb:b.Up U)(hU:U≤8000000000000000)(hp:p=a.add b)(w:World) :
  Calls Try.prog 95 #[.agg #[Z O a.lo,Z O a.hi],.agg #[Z O b.lo,Z O b.hi]] w fun e w'=>e=.returned (.agg #[Z O p.lo,Z O p.hi])∧Below w.heap.size w w':=by
 subst hp
 exact sum_calls a b w (fit_of_up ha (Int.le_trans hV (by decide))) (fit_of_up hb (Int.le_trans hU (by decide)))
theorem difference_up {a b p:Bd}{V U:Int}(ha:a.Up V)(hV:V≤8000000000000000)(hb:b.Up U)(hU:U≤8000000000000000)(hp:p=Bd.sub a b)(w:World) :
  Calls Try.prog 100 #[.agg #[Z O a.lo,Z O a.hi],.agg #[Z O b.lo,Z O b.hi]] w fun e w'=>e=.returned (.agg #[Z O p.lo,Z O p.hi])∧Below w.heap.size w w':=by
 subst hp
 exact difference_calls a b w (fit_of_up ha (Int.le_trans hV (by decide))) (fit_of_up hb (Int.le_trans hU (by decide)))
theorem sub_fit {a b:Bd}{V U:Int}(ha:a.Up V)(hV:V≤8000000000000000)(hb:b.Up U)(hU:U≤8000000000000000):Bd.Fit 4000000000000000000 (Bd.sub a b):=by
 obtain⟨h1,h2,h3⟩:=ha
 obtain⟨h4,h5,h6⟩:=hb
 unfold Bd.Fit Bd.sub
 simp only
 omega
theorem common_fit {a b p:Bd}(ha:Bd.Fit 4000000000000000000 a)(hb:Bd.Fit 4000000000000000000 b)(hp:p=Bd.meet a b)(w:World) :
  Calls Try.prog 105 #[.agg #[Z O a.lo,Z O a.hi],.agg #[Z O b.lo,Z O b.hi]] w fun e w'=>e=.returned (.agg #[Z O p.lo,Z O p.hi])∧Below w.heap.size w w':=by
 subst hp
 exact common_calls a b w ha hb
theorem if_max (a:Int):(if a<0 then 0 else a)=max 0 a:=by
 by_cases h:a<0
 ·rw [if_pos h];omega
 ·rw [if_neg h];omega
theorem if_min (a d:Int):(if d<a then d else a)=min a d:=by
 by_cases h:d<a
 ·rw [if_pos h];omega
 ·rw [if_neg h];omega
theorem if_max2 (a b:Int):(if a<b then b else a)=max a b:=by
 by_cases h:a<b
 ·rw [if_pos h];omega
 ·rw [if_neg h];omega
theorem laterBoiled_calls (a b p:Int)(w:World)(ha : -1≤a∧a≤2000)(hb : -1≤b∧b≤2000)(hp:p=lastBoil a b) :
  Calls Try.prog 102 #[Z O a,Z O b] w fun e w'=>e=.returned (Z O p)∧Below w.heap.size w w':=by
 have HP:=Zh hp
 clear hp
 obtain⟨a0,a1⟩:=ha
 obtain⟨b0,b1⟩:=hb
 by_cases h1:a = -1
 ·subst h1
  go_enter Try.func102,Try.ntmps102
  go_wp2
  go_ret
  exact⟨by rw [HP.out];simp [lastBoil],Below.refl _ _⟩
 ·have d1:(a == -1)=false:=by simpa using h1
  by_cases h2:b = -1
  ·subst h2
   clear h1
   go_enter Try.func102,Try.ntmps102
   go_wp2
   go_ret
   exact⟨by rw [HP.out];simp [lastBoil],Below.refl _ _⟩
  ·have d2:(b == -1)=false:=by simpa using h2
   have HM:=Zh (show lastBoil a b=max a b by unfold lastBoil;rw [if_neg (by omega)])
   clear h1 h2
   go_enter Try.func102,Try.ntmps102
   go_wp2
   all_goals
    go_ret
    first
     | exact⟨show Ending.returned (Z O b)=_ by rw [HP.out,HM.out,Int.max_eq_right (by omega)],Below.refl _ _⟩
     | exact⟨show Ending.returned (Z O a)=_ by rw [HP.out,HM.out,Int.max_eq_left (by omega)],Below.refl _ _⟩
theorem boxed_deed {w:World}{C:Nat→Prop}{B:Nat}{bef aft:Int}{l:List SRow}{c:Yd.Acc}{made:Int}{N:Nat}{kv tv:Value}{m:Nat}(h:Book w C B bef aft l c made N kv tv m)(hC:∀ k,C k→k<w.heap.size)(cs:List Value) :
  Desk w (w.alloc (.cells cs.toArray 55)) (fun _=>False) C B bef aft l c made N kv tv m [(w.heap.size,55,cs)]:=(Desk.start h hC).alloc _ _ rfl
section
variable {P:Program} {md:Region.Mode} {ops:Array Oper} {Q:Exit→Act→World→Prop} {Bk:List Nat} {H:World→Prop}
theorem till_ways {fuel:Nat}{listed:Array Bool}{a:Act}{w:World}(hne:Region.ready md ops listed≠[])
  (h:∀ j ∈ Region.ready md ops listed,∃ o,ops[j]? = some o∧wpList P ops (Exit.then (fun a' w'=>Till Bk H (listed.setIfInBounds j true) w'∧wpAnyT P md ops Q Bk H fuel (listed.setIfInBounds j true) a' w') Q) [o] a w):wpAnyT P md ops Q Bk H (fuel+1) listed a w:=by
 refine⟨fun h0=>absurd h0 hne,fun i hi=>?_⟩
 obtain⟨o,ho,h⟩:=h i hi
 unfold wpOp
 rw [ho]
 change(if Region.wanted o (yielded ops a.tmps)then o.wp P a w (wpList P ops _ []) _∨(o.asks P a w∧LetsOut _)else _)at h
 dsimp only
 split
 ·rename_i hw
  rw [if_pos hw]at h
  rcases h with h | ⟨h1,a',w',h2⟩
  ·exact .inl (oper_then h)
  ·exact .inr ⟨h1,a',w',h2⟩
 ·rename_i hw
  rw [if_neg hw]at h
  exact h
theorem till_two {i j:Nat}{o p:Oper}{fuel:Nat}{listed:Array Bool}{a:Act}{w:World}(hr:Region.ready md ops listed = [i,j])(ho:ops[i]? = some o)(hp:ops[j]? = some p)
  (h:wpList P ops (Exit.then (fun a' w'=>Till Bk H (listed.setIfInBounds i true) w'∧wpAnyT P md ops Q Bk H fuel (listed.setIfInBounds i true) a' w') Q) [o] a w)
  (h':wpList P ops (Exit.then (fun a' w'=>Till Bk H (listed.setIfInBounds j true) w'∧wpAnyT P md ops Q Bk H fuel (listed.setIfInBounds j true) a' w') Q) [p] a w):wpAnyT P md ops Q Bk H (fuel+1) listed a w:=by
 refine till_ways (by rw [hr];simp) fun k hk=>?_
 rw [hr]at hk
 rcases List.mem_cons.1 hk with rfl | hk
 ·exact⟨o,ho,h⟩
 ·rw [List.mem_singleton]at hk
  subst hk
  exact⟨p,hp,h'⟩
theorem till_three {i j k:Nat}{o p q:Oper}{fuel:Nat}{listed:Array Bool}{a:Act}{w:World}(hr:Region.ready md ops listed = [i,j,k])(ho:ops[i]? = some o)(hp:ops[j]? = some p)(hq:ops[k]? = some q)
  (h:wpList P ops (Exit.then (fun a' w'=>Till Bk H (listed.setIfInBounds i true) w'∧wpAnyT P md ops Q Bk H fuel (listed.setIfInBounds i true) a' w') Q) [o] a w)
  (h':wpList P ops (Exit.then (fun a' w'=>Till Bk H (listed.setIfInBounds j true) w'∧wpAnyT P md ops Q Bk H fuel (listed.setIfInBounds j true) a' w') Q) [p] a w)
  (h'':wpList P ops (Exit.then (fun a' w'=>Till Bk H (listed.setIfInBounds k true) w'∧wpAnyT P md ops Q Bk H fuel (listed.setIfInBounds k true) a' w') Q) [q] a w):wpAnyT P md ops Q Bk H (fuel+1) listed a w:=by
 refine till_ways (by rw [hr];simp) fun x hx=>?_
 rw [hr]at hx
 rcases List.mem_cons.1 hx with rfl | hx
 ·exact⟨o,ho,h⟩
 rcases List.mem_cons.1 hx with rfl | hx
 ·exact⟨p,hp,h'⟩
 ·rw [List.mem_singleton]at hx
  subst hx
  exact⟨q,hq,h''⟩
end
theorem Desk.grow {w0 W W':World}{Cx C:Nat→Prop}{B:Nat}{bef aft:Int}{l:List SRow}{c:Yd.Acc}{made:Int}{N:Nat}{kv tv:Value}{m:Nat}{L:List (Nat × TypeId × List Value)}
  (h:Desk w0 W Cx C B bef aft l c made N kv tv m L) (hb:Below W.heap.size W W') {g:Nat} {t:TypeId} {cs:Array Value} (hk:Blk W' g t cs) (hg:W.heap.size≤g):Desk w0 W' Cx C B bef aft l c made N kv tv m (L++[(g,t,cs.toList)]):=by
 have h':=h.below hb
 refine⟨h'.book,h'.old,fun i g' u ds hi=>?_,?_,h'.beside⟩
 ·rcases Nat.lt_or_ge i L.length with h1 | h1
  ·rw [List.getElem?_append_left h1]at hi
   exact h'.loc i g' u ds hi
  ·rw [List.getElem?_append_right h1]at hi
   have:i-L.length=0:=by
    rcases Nat.eq_zero_or_pos (i-L.length)with h2 | h2
    ·exact h2
    ·rw [List.getElem?_eq_none (by simp;omega)]at hi;cases hi
   rw [this]at hi
   cases hi
   exact⟨hk,Nat.le_trans h.beside.size hg⟩
 ·rw [List.map_append,List.nodup_append]
  refine⟨h.nodup,by simp,fun a ha b hb'=>?_⟩
  obtain⟨x,hx,rfl⟩:=List.mem_map.1 ha
  obtain⟨i,hi⟩:=List.mem_iff_getElem?.1 hx
  have:=(h.loc i x.1 x.2.1 x.2.2 hi).1.lt
  simp at hb'
  omega
def DeedDone (w:World)(C:Nat→Prop)(B:Nat)(bef aft:Int)(ss:List (Stk Code))(c:Yd.Acc)(made:Int)(N m:Nat)(e:Ending)(w':World):Prop :=
 e=.returned (.tuple #[])∧Beside C w w'∧∃(rows:List SRow) (kv' tv':Value),rows.map (·.1)=ss∧Book w' (Wide C w) B bef aft rows c made N kv' tv' m
theorem Blk.range {w:World}{g:Nat}{t:TypeId}{cs:Array Value}(h:Blk w g t cs)(o:Nat)(vs:List Value)(e:(cs.toList.drop o).take vs.length=vs):w.rangeAt g o vs:=fun j v hv=>by
 refine h.at (o+j) v ?_
 have hlt:j<vs.length:=(List.getElem?_eq_some_iff.1 hv).1
 rw [← e,List.getElem?_take,if_pos hlt,List.getElem?_drop]at hv
 simpa using hv
theorem Desk.drew {w0 W:World}{Cx C:Nat→Prop}{B:Nat}{bef aft:Int}{l:List SRow}{c:Yd.Acc}{made:Int}{N:Nat}{kv tv:Value}{m:Nat}{L:List (Nat × TypeId × List Value)}
  (h:Desk w0 W Cx C B bef aft l c made N kv tv m L):Desk w0 W.drew Cx C B bef aft l c made N kv tv m L:=h.below (Below.refl _ _).drew
end Go.Proofs.Ytgekekhbhkgekaa
namespace Go.Proofs.Ytgekekhbhkgekaa
open Go Go.RowKit Yd
open _root_.Go.Value renaming int → Z, slice → Zl
open _root_.Go.IntKind renaming i64 → O
open _root_.Go.Lib renaming hid → Zh
set_option maxRecDepth 100000
set_option maxHeartbeats 16000000
theorem info_int:(Try.prog.info? 3).map (fun i=>(i.zero,i.size,i.bytes))=some (some (Z O 0),1,8):=by kernel_rfl
theorem ones_ints (xs:List Int):∀ u ∈ intCells xs,u.oneCell'=true:=fun u hu=>by
 obtain⟨x,_,rfl⟩:=List.mem_map.1 hu
 rfl
def CloneDone (w:World)(n:Nat)(xs:List Int)(e:Ending)(w':World):Prop :=
 ∃(g cap:Nat) (cur:Array Value),e=.returned (Zl (some ⟨g,0,none⟩) n cap)∧Below w.heap.size w w'∧Blk w' g 3 cur∧w.heap.size≤g∧n≤cap∧cap≤maxLen∧cur.size=cap*1∧cur.toList.take (n*1)=intCells xs
theorem clone_calls {w:World}{v:Value}{n:Nat}{xs:List Int}(h:w.ownsRow 0 3 1 v n (intCells xs))(hn:0<n)(hl:n≤1000) :
  Calls Try.prog 101 #[v] w (CloneDone w n xs):=by
 obtain⟨g,cap,cur,rfl,hb,hc,hm,hs,ht⟩:=row_block h hn
 have HB:=Zh (hb.alloc (.cells #[] 3))
 have HW:=Zh (show(w.alloc (.cells #[] 3)).ownsRow 0 3 1 (Zl (some ⟨w.heap.size,0,none⟩) 0 0) 0 []from by
  have:=row_of_block (Blk.new w 3 #[]) (size:=1) (n:=0) (cap:=0) (Nat.le_refl _) (Nat.zero_le _) rfl
  simpa using this)
 have HLN:=Zh (p:=(intCells xs).length=n*1) (h.1)
 have HNW:=Zh (show ∀ j u,(intCells xs)[j]? = some u→(w.alloc (.cells #[] 3)).cell? ((⟨g,0,none⟩:Addr).add j)=some u from fun j u hj=>by
  rw [addr_add,HB.out.cell,← Array.getElem?_toList]
  rw [← ht,List.getElem?_take]at hj
  split at hj
  ·exact hj
  ·cases hj)
 have HA:=Zh (show 0+n≤maxLen∧(0+n)*8≤140737488355328∧0<n by unfold maxLen;omega)
 obtain⟨i1,hi1,hi1a,hi1b,hi1c⟩:=info_parts info_int
 have HI1:=Zh hi1
 have HI1a:=Zh hi1a
 have HI1b:=Zh hi1b
 have HI1c:=Zh hi1c
 have hnil:=fun(w:World) (a:Option Addr) (n c:Nat)=>Lib.run_eql_slice_nil (P:=Try.prog) w 47 3 a n c 0 0 Try.underlying47
 clear h hn hl hb hc hm hs ht hi1 hi1a hi1b hi1c
 go_enter Try.func101,Try.ntmps101
 go_wp2_with (at_builtin;refine wpList_append_lies _ rfl (.tmp 5) (.tmp 6) 47 rfl 0 3 i1 (Z O 0) 1 8 Try.underlying47 HI1.out HI1a.out HI1b.out HI1c.out rfl (by decide) (Zl (some ⟨w.heap.size,0,none⟩) 0 0) 0 [] rfl HW.out ⟨g,0,none⟩ n cap (intCells xs) rfl HLN.out HNW.out (ones_ints xs) HA.out.2.2 HA.out.1 HA.out.2.1 (Nat.zero_le _) (w.heap.size+1) (World.size_alloc _ _) ?_;intro g2 cap2 w2 hown2 hg2 hat2 hlt2)
 go_ret
 have hz:w.heap.size≤g2:=by
  rcases hat2 with h | h
  ·simp only [Value.ownBlock,Option.some.injEq]at h;omega
  ·omega
 rw [Nat.zero_add,List.nil_append]at hown2
 obtain⟨g3,cap3,cur3,e3,hb3,hc3,hm3,hs3,ht3⟩:=row_block hown2 HA.out.2.2
 cases e3
 exact⟨g2,cap2,cur3,rfl,(((Beside.refl (fun _=>False) w).alloc (.cells #[] 3)).grown hg2 (fun r hr=>by cases hr;exact .inr (Nat.le_refl _))).below (fun _ f=>f.elim) (Nat.le_refl _),hb3,hz,hc3,hm3,hs3,ht3⟩
end Go.Proofs.Ytgekekhbhkgekaa
