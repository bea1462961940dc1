/- Memory: blocks known whole; what stays as it was beside some blocks. Nothing of the program. A region that draws its order, whose last operations come up one after the other behind all the others: it may be gone through in two parts. -/
import Derived.Below
import Derived.RowKit
import Derived.Laws.Rows
import Derived.Laws.Tables
import Derived.Laws.AppendOwn
import Derived.Laws.OwnMore
import Derived.Laws.IdiomCopy
import Derived.Deep.MidRow
import Derived.Maps.Own
import Derived.Maps.OwnSet
import Derived.Maps.Views
import Derived.Lib.Hide
import Derived.OrdersHeld
import Derived.StillTail
import Derived.Lib.QuietBelow
import Derived.BigQuiet
namespace Go.Proofs.Ytgekekhbhkgekaa
open Go Go.RowKit
open _root_.Go.Value renaming slice → Zl
theorem cell_same {w w':World}{g:Nat}(h:w'.heap[g]? = w.heap[g]?)(o:Nat):w'.cell? ⟨g,o,none⟩=w.cell? ⟨g,o,none⟩:=by
 simp [World.cell?,h]
theorem heap_setCells (w:World)(g:Nat){k:Nat}(hk:k≠g):∀(vs:List Value) (o:Nat),(w.setCells g o vs).heap[k]? = w.heap[k]? := by
 intro vs
 induction vs generalizing w with
 | nil=>intro o;rfl
 | cons v r ih=>intro o;exact(ih (w.setCell ⟨g,o,none⟩ v) (o+1)).trans (Below.heap_setCell w ⟨g,o,none⟩ v k hk)
theorem size_setCell (w:World)(a:Addr)(v:Value):(w.setCell a v).heap.size=w.heap.size:=by simp [World.setCell]
theorem size_setCells (w:World)(b:Nat):∀(vs:List Value) (o:Nat),(w.setCells b o vs).heap.size=w.heap.size:=by
 intro vs
 induction vs generalizing w with
 | nil=>intro o;rfl
 | cons v r ih=>intro o;simp only [World.setCells];rw [ih];simp [World.setCell]
theorem setCells_same (g:Nat):∀(vs:List Value) (o:Nat) (w:World),(w.setCells g o vs).os=w.os∧(w.setCells g o vs).tape=w.tape∧(w.setCells g o vs).output=w.output
 | [],_,_=>⟨rfl,rfl,rfl⟩
 | v :: r,o,w=>setCells_same g r (o+1) (w.setCell ⟨g,o,none⟩ v)
theorem addr_add (g j:Nat):(⟨g,0,none⟩:Addr).add j=⟨g,j,none⟩:=by cases j <;> simp [Addr.add]
def Blk (w:World)(g:Nat)(t:TypeId)(cs:Array Value):Prop:=w.heap[g]? = some (.cells cs t (0,0))
section
variable {w w':World} {g:Nat} {t:TypeId} {cs:Array Value}
theorem Blk.lt (h:Blk w g t cs):g<w.heap.size:=by
 rcases Nat.lt_or_ge g w.heap.size with hlt | hge
 ·exact hlt
 ·unfold Blk at h;rw [Array.getElem?_eq_none hge]at h;cases h
theorem Blk.cell (h:Blk w g t cs)(i:Nat):w.cell? ⟨g,i,none⟩=cs[i]? := cell_of_row w g i cs t (0,0) h
theorem Blk.frozen (h:Blk w g t cs)(i:Nat):w.frozen? ⟨g,i,none⟩=false:=by
 unfold Blk at h
 simp [World.frozen?,h]
theorem Blk.new (w:World)(t:TypeId)(cs:Array Value):Blk (w.alloc (.cells cs t)) w.heap.size t cs:=heap_alloc_new w _
theorem Blk.new' {w:World}{g:Nat}(h:w.heap.size=g)(t:TypeId)(cs:Array Value):Blk (w.alloc (.cells cs t)) g t cs:=h ▸ Blk.new w t cs
theorem Blk.alloc (h:Blk w g t cs)(o:Obj):Blk (w.alloc o) g t cs:=(Below.heap_alloc w o g h.lt).trans h
theorem Blk.set_ (h:Blk w g t cs)(i:Nat)(u:Value):Blk (w.setCell ⟨g,i,none⟩ u) g t (cs.setIfInBounds i u):=by
 unfold Blk at h ⊢
 simp [World.setCell,Array.getElem?_modify,h]
theorem Blk.far (h:Blk w g t cs){p:Addr}(hp:g≠p.block)(u:Value):Blk (w.setCell p u) g t cs:=(Below.heap_setCell w p u g hp).trans h
theorem Blk.drew (h:Blk w g t cs):Blk w.drew g t cs:=h
theorem Blk.apart {g':Nat}(h:Blk w g t cs)(hg:g≠g')(o:Nat)(vs:List Value):Blk (w.setCells g' o vs) g t cs:=(heap_setCells w g' hg vs o).trans h
theorem Blk.there (h:Blk w g t cs){o n:Nat}(hn:o+n≤cs.size):w.there g o n:=fun j hj=>⟨by rw [h.cell (o+j),Array.getElem?_eq_getElem (by omega)];rfl,h.frozen _⟩
theorem Blk.grown {row:Option Nat}(h:Blk w g t cs)(hg:w.grownBy w' row)(hr:some g≠row):Blk w' g t cs:=(hg.block g h.lt hr).trans h
theorem Blk.at (h:Blk w g t cs)(i:Nat)(v:Value)(e:cs[i]? = some v):w.cell? ⟨g,i,none⟩=some v:=(h.cell i).trans e
end
def cellsSet (cs:Array Value):Nat→List Value→Array Value
 | _,[] => cs
 | o,v :: r=>cellsSet (cs.setIfInBounds o v) (o+1) r
theorem Blk.sets {g:Nat}{t:TypeId}:∀(vs:List Value) (o:Nat) {w:World} {cs:Array Value},Blk w g t cs→Blk (w.setCells g o vs) g t (cellsSet cs o vs)
 | [],_,_,_,h=>h
 | v :: r,o,_,_,h=>Blk.sets r (o+1) (h.set_ o v)
theorem cellsSet_mid:∀(vs pre old post:List Value),old.length=vs.length→cellsSet (pre++old++post).toArray pre.length vs=(pre++vs++post).toArray
 | [],_,[],_,_=>by simp [cellsSet]
 | [],_,_ :: _,_,h=>by cases h
 | _ :: _,_,[],_,h=>by cases h
 | v :: r,pre,o :: old,post,h=>by
   have e:(pre++(o :: old)++post).toArray.setIfInBounds pre.length v=((pre++[v])++old++post).toArray:=by simp
   have e2:pre.length+1=(pre++[v]).length:=by simp
   show cellsSet ((pre++(o :: old)++post).toArray.setIfInBounds pre.length v) (pre.length+1) r=_
   rw [e,e2,cellsSet_mid r (pre++[v]) old post (by simpa using h)]
   simp
theorem cellsSet_list (vs old:List Value)(h:old.length=vs.length):cellsSet old.toArray 0 vs=vs.toArray:=by
 have:=cellsSet_mid vs [] old [] h
 simpa using this
theorem Blk.stored {w:World}{g:Nat}{t:TypeId}{old:List Value}(h:Blk w g t old.toArray)(vs:List Value)(hl:old.length=vs.length):Blk (w.setCells g 0 vs) g t vs.toArray:=by
 have:=Blk.sets vs 0 h
 rwa [cellsSet_list vs old hl]at this
theorem Blk.storedMid {w:World}{g:Nat}{t:TypeId}(pre old post vs:List Value)(h:Blk w g t (pre++old++post).toArray)(hl:old.length=vs.length):Blk (w.setCells g pre.length vs) g t (pre++vs++post).toArray:=by
 have:=Blk.sets vs pre.length h
 rwa [cellsSet_mid vs pre old post hl]at this
structure Beside (C:Nat→Prop)(w w':World):Prop where
 os:w'.os=w.os
 tape:w'.tape=w.tape
 output:w'.output=w.output
 size:w.heap.size≤w'.heap.size
 block:∀ k,k<w.heap.size→¬ C k→w'.heap[k]? = w.heap[k]?
def Wide (C:Nat→Prop)(w:World):Nat→Prop:=fun k=>C k∨w.heap.size≤k
namespace Beside
variable {C C1:Nat→Prop} {w w1 w2:World}
theorem refl (C:Nat→Prop)(w:World):Beside C w w:=⟨rfl,rfl,rfl,Nat.le_refl _,fun _ _ _=>rfl⟩
theorem trans (h:Beside C w w1)(h':Beside C1 w1 w2)(hC:∀ k,C1 k→Wide C w k):Beside C w w2 :=
 ⟨h'.os.trans h.os,h'.tape.trans h.tape,h'.output.trans h.output,Nat.le_trans h.size h'.size,fun k hk hn =>
  (h'.block k (Nat.lt_of_lt_of_le hk h.size) (fun hc=>(hC k hc).elim hn (fun hge=>absurd hk (Nat.not_lt.2 hge)))).trans (h.block k hk hn)⟩
theorem mono (h:Beside C w w1)(hC:∀ k,C k→C1 k):Beside C1 w w1:=⟨h.os,h.tape,h.output,h.size,fun k hk hn=>h.block k hk (fun hc=>hn (hC k hc))⟩
theorem drew (h:Beside C w w1):Beside C w w1.drew:=⟨h.os,h.tape,h.output,h.size,h.block⟩
theorem alloc (h:Beside C w w1)(o:Obj):Beside C w (w1.alloc o) :=
 ⟨h.os,h.tape,h.output,by rw [World.size_alloc];have:=h.size;omega,fun k hk hn=>(Below.heap_alloc w1 o k (Nat.lt_of_lt_of_le hk h.size)).trans (h.block k hk hn)⟩
theorem setCell (h:Beside C w w1){p:Addr}(hp:Wide C w p.block)(u:Value):Beside C w (w1.setCell p u) :=
 ⟨h.os,h.tape,h.output,by rw [size_setCell];exact h.size,fun k hk hn=>(Below.heap_setCell w1 p u k (fun e=>by subst e;exact hp.elim hn (fun hge=>absurd hk (Nat.not_lt.2 hge)))).trans (h.block k hk hn)⟩
theorem setCells (h:Beside C w w1){g:Nat}(hg:Wide C w g)(o:Nat)(vs:List Value):Beside C w (w1.setCells g o vs):=by
 obtain⟨e1,e2,e3⟩:=setCells_same g vs o w1
 refine⟨e1.trans h.os,e2.trans h.tape,e3.trans h.output,by rw [size_setCells];exact h.size,fun k hk hn=>?_⟩
 rw [heap_setCells w1 g (fun e=>by subst e;exact hg.elim hn (fun hge=>absurd hk (Nat.not_lt.2 hge))) vs o]
 exact h.block k hk hn
theorem grown (h:Beside C w w1){row:Option Nat}(hg:w1.grownBy w2 row)(hr:∀ r,row=some r→Wide C w r):Beside C w w2 :=
 ⟨hg.os.trans h.os,hg.tape.trans h.tape,hg.output.trans h.output,Nat.le_trans h.size hg.size,fun k hk hn =>
  (hg.block k (Nat.lt_of_lt_of_le hk h.size) (fun e=>(hr k e.symm).elim hn (fun hge=>absurd hk (Nat.not_lt.2 hge)))).trans (h.block k hk hn)⟩
theorem of_below (h:Below w.heap.size w w1):Beside C w w1:=⟨h.os,h.tape,h.output,h.size,fun k hk _=>h.block k hk⟩
theorem thenBelow (h:Beside C w w1)(h':Below w1.heap.size w1 w2):Beside C w w2:=h.trans (of_below (C:=fun _=>False) h') (fun _ f=>f.elim)
theorem below {B:Nat}(h:Beside C w w1)(hC:∀ k,C k→B≤k)(hB:B≤w.heap.size):Below B w w1 :=
 ⟨h.os,h.tape,h.output,h.size,fun k hk=>h.block k (by omega) (fun hc=>by have:=hC k hc;omega)⟩
theorem blk {g:Nat}{t:TypeId}{cs:Array Value}(h:Beside C w w1)(hb:Blk w g t cs)(hg:¬ C g):Blk w1 g t cs:=(h.block g hb.lt hg).trans hb
theorem cell (h:Beside C w w1){g:Nat}(hk:g<w.heap.size)(hg:¬ C g)(o:Nat):w1.cell? ⟨g,o,none⟩=w.cell? ⟨g,o,none⟩:=cell_same (h.block g hk hg) o
end Beside
theorem Wide.new {C:Nat→Prop}{w:World}{k:Nat}(h:w.heap.size≤k):Wide C w k:=.inr h
theorem row_block {w:World}{base:Nat}{e:TypeId}{size n:Nat}{v:Value}{xs:List Value}(h:w.ownsRow base e size v n xs)(hn:0<n) :
  ∃ g cap cur,v=Zl (some ⟨g,0,none⟩) n cap∧Blk w g e cur∧n≤cap∧cap≤maxLen∧cur.size=cap*size∧cur.toList.take (n*size)=xs:=by
 rcases h.2 with⟨_,h0⟩ | ⟨g,cap,cur,h1,_,h3,h4,h5,h6,h7⟩
 ·omega
 ·exact⟨g,cap,cur,h1,h3,h4,h5,h6,h7⟩
theorem row_of_block {w:World}{e:TypeId}{size n cap g:Nat}{cur:Array Value}(hb:Blk w g e cur)(hn:n≤cap)(hc:cap≤maxLen)(hs:cur.size=cap*size) :
  w.ownsRow 0 e size (Zl (some ⟨g,0,none⟩) n cap) n (cur.toList.take (n*size)):=by
 refine⟨?_,.inr ⟨g,cap,cur,rfl,Nat.zero_le _,hb,hn,hc,hs,rfl⟩⟩
 rw [List.length_take,Array.length_toList,hs]
 exact Nat.min_eq_left (Nat.mul_le_mul_right _ hn)
theorem row_same {w w':World}{base:Nat}{e:TypeId}{size n:Nat}{v:Value}{xs:List Value}(h:w.ownsRow base e size v n xs)(hs:∀ g,v.ownBlock=some g→w'.heap[g]? = w.heap[g]?):w'.ownsRow base e size v n xs:=by
 refine⟨h.1,?_⟩
 rcases h.2 with h0 | ⟨g,cap,cur,h1,h2,h3,h4⟩
 ·exact .inl h0
 ·exact .inr ⟨g,cap,cur,h1,h2,(hs g (by rw [h1];rfl)).trans h3,h4⟩
theorem row_lt {w:World}{base:Nat}{e:TypeId}{size n:Nat}{v:Value}{xs:List Value}(h:w.ownsRow base e size v n xs){g:Nat}(hg:v.ownBlock=some g):g<w.heap.size:=(h.lt g hg).2
theorem row_type {w:World}{base:Nat}{e:TypeId}{size n:Nat}{v:Value}{xs:List Value}(h:w.ownsRow base e size v n xs){g:Nat}(hg:v.ownBlock=some g):∃ cs,Blk w g e cs:=by
 rcases h.2 with⟨h0,_⟩ | ⟨g',cap,cur,h1,h2,h3,h4⟩
 ·rw [h0]at hg;cases hg
 ·rw [h1]at hg
  cases hg
  exact⟨cur,h3⟩
theorem blk_type {w:World}{g:Nat}{t t':TypeId}{cs cs':Array Value}(h:Blk w g t cs)(h':Blk w g t' cs'):t=t':=by
 unfold Blk at h h';rw [h]at h';cases h';rfl
theorem map_block {H:Type}{P:Program}{k:TypeId}{R:Value→Option (DataW H × List MemPlace)}{w:World}{b n:Nat}{D:DataW H}(h:w.ownsMap P k R b n D){t:TypeId}{cs:Array Value}(h':Blk w b t cs):False:=by
 obtain⟨es,clock,hb,_⟩:=h
 unfold Blk at h';rw [hb]at h';cases h'
theorem map_same {H:Type}{P:Program}{k:TypeId}{R:Value→Option (DataW H × List MemPlace)}{w w':World}{b n:Nat}{D:DataW H}(h:w.ownsMap P k R b n D)(hs:w'.heap[b]? = w.heap[b]?):w'.ownsMap P k R b n D:=by
 obtain⟨es,clock,hb,h2⟩:=h
 exact⟨es,clock,hs.trans hb,h2⟩
theorem at_store {P:Program}{ops:Array Oper}{rest:List Oper}{d:Option Tmp}(ty:TypeId)(x y:Operand){ty2:TypeId}{ps:String}{af:Array Edge}{gd:Option (Nat × Bool)}{a:Act}{w:World}{Q:Exit→Act→World→Prop}(h:wpList P ops Q (⟨d,.store ty x y,ty2,ps,af,gd⟩ :: rest) a w):wpList P ops Q (⟨d,.store ty x y,ty2,ps,af,gd⟩ :: rest) a w:=h
theorem below_setCells {B:Nat}{a w:World}(h:Below B a w){g:Nat}(hg:B≤g):∀(vs:List Value) (o:Nat),Below B a (w.setCells g o vs):=by
 intro vs
 induction vs generalizing w with
 | nil=>intro o;exact h
 | cons v r ih=>intro o;exact ih (h.setCell (p:=⟨g,o,none⟩) hg v) (o+1)
theorem Below.blk {B:Nat}{w w':World}(hb:Below B w w'){g:Nat}{t:TypeId}{cs:Array Value}(h:Blk w g t cs)(hg:g<B):Blk w' g t cs:=(hb.block g hg).trans h
theorem Blk.below {w w':World}{g:Nat}{t:TypeId}{cs:Array Value}(h:Blk w g t cs)(hb:Below w.heap.size w w'):Blk w' g t cs:=(hb.block g h.lt).trans h
end Go.Proofs.Ytgekekhbhkgekaa
namespace Go.Proofs.Ytgekekhbhkgekaa
open Go Go.RowKit
def tailPost (P:Program)(ops:Array Oper)(Q:Exit→Act→World→Prop)(tail:List Oper):Exit→Act→World→Prop
 | .normal,a,w=>wpList P ops Q tail a w
 | .ret,a,w=>Q .ret a w
 | .panic c,a,w=>Q (.panic c) a w
 | .outgrown,a,w=>Q .outgrown a w
 | e,a,w=>Q e a w
def splitHeadB (md:Region.Mode)(ops:Array Oper)(n:Nat):Bool :=
 (List.range n).all fun i=>match ops[i]? with
  | some o=>(o.after.all fun e => !Region.binds md e || decide (e.on<i)) && (match o.guard with | none=>true | some (j,_)=>decide (j<n))
  | none=>false
def splitB (md:Region.Mode)(ops:Array Oper)(n:Nat):Bool :=
 decide (n<ops.size) && Region.sinkB md ops n && Region.chainB md ops n && splitHeadB md ops n && Region.seqB md ops (ops.size-n) n (Array.replicate n true++Array.replicate (ops.size-n) false)
section
variable {P:Program} {md:Region.Mode} {Q:Exit→Act→World→Prop}
theorem wpAny_more {ops:Array Oper}:∀(f:Nat) (listed:Array Bool) (a:Act) (w:World),wpAny P md ops Q f listed a w→wpAny P md ops Q (f+1) listed a w
 | 0,_,_,_,h=>⟨fun _=>h.2,fun i hi=>by rw [h.1]at hi;cases hi⟩
 | f+1,_,_,_,h=>⟨h.1,fun i hi=>wpOp_mono (fun a' w' h'=>wpAny_more f _ a' w' h') (h.2 i hi)⟩
theorem wpAny_mores {ops:Array Oper}(g:Nat)(listed:Array Bool)(a:Act)(w:World)(h:wpAny P md ops Q g listed a w):∀ f,wpAny P md ops Q (f+g) listed a w
 | 0=>by rw [Nat.zero_add];exact h
 | f+1=>by rw [show f+1+g=(f+g)+1 by omega];exact wpAny_more _ _ _ _ (wpAny_mores g listed a w h f)
theorem oper_tail {ops:Array Oper}{tail:List Oper}{o:Oper}{a:Act}{w:World}{K K':Act→World→Prop}(hK:∀ a w,K a w→K' a w)(h:o.wp P a w K (tailPost P ops Q tail)):o.wp P a w K' Q:=by
 unfold Oper.wp at *
 generalize(execOp a.eval o).run P w=r at *
 cases r with
 | ok n w' =>
   cases n <;> simp only [Oper.upon]at h ⊢ <;>
    first
     | exact hK _ _ h
     | exact Calls.mono h (fun e w'' he=>by cases e <;> first | exact hK _ _ he | exact he)
     | exact Rows.mono h (fun _ _ he=>hK _ _ he)
 | halt x w'=>cases x <;> simp only [Oper.upon]at h ⊢ <;> exact h
variable {l:List Oper} {n:Nat}
theorem take_at (i:Nat)(hi:i<n):(l.take n).toArray[i]? = l.toArray[i]? := by simp [hi]
theorem splitHead_spec (hH:splitHeadB md l.toArray n=true){i:Nat}{o:Oper}(hi:i<n)(ho:l.toArray[i]? = some o):(∀ e ∈ o.after,Region.binds md e=true→e.on<i)∧(∀ j b,o.guard=some (j,b)→j<n):=by
 have h:=List.all_eq_true.1 hH i (List.mem_range.2 hi)
 simp only [ho,Bool.and_eq_true,Array.all_eq_true_iff_forall_mem,Bool.or_eq_true,Bool.not_eq_true',decide_eq_true_eq]at h
 refine⟨fun e he hb=>(h.1 e he).resolve_left (by rw [hb];simp),fun j b hg=>?_⟩
 have h2:=h.2
 rw [hg]at h2
 simpa using h2
theorem wanted_left {o:Oper}(hg:∀ j b,o.guard=some (j,b)→j<n)(t:Array Value):Region.wanted o (yielded (l.take n).toArray t)=Region.wanted o (yielded l.toArray t):=by
 unfold Region.wanted
 split
 ·rfl
 ·rename_i j b e
  have hj:=hg j b e
  unfold yielded
  rw [take_at j hj]
theorem wpOp_tail {tail:List Oper}{i:Nat}{K K':Act→World→Prop}{a:Act}{w:World}(hH:splitHeadB md l.toArray n=true)(hi:i<n)(hK:∀ a w,K a w→K' a w)
  (h:wpOp P (l.take n).toArray (tailPost P l.toArray Q tail) i K a w):wpOp P l.toArray Q i K' a w:=by
 unfold wpOp at *
 rw [take_at i hi]at h
 split
 ·rename_i e
  rw [e]at h
  exact hK _ _ h
 ·rename_i o e
  rw [e]at h
  dsimp only at h
  obtain⟨_,hg⟩:=splitHead_spec hH hi e
  rw [wanted_left hg]at h
  split
  ·rename_i hw
   rw [if_pos hw]at h
   rcases h with h | ⟨h1,a',w',h2⟩
   ·exact .inl (oper_tail hK h)
   ·exact .inr ⟨h1,a',w',h2⟩
  ·rename_i hw
   rw [if_neg hw]at h
   exact hK _ _ h
theorem getD_left {listed:Array Bool}{g i:Nat}{d d':Bool}(hs:listed.size=n)(hi:i<n):(listed++Array.replicate g false).getD i d=listed.getD i d':=by
 simp [Array.getD,hs,hi,Array.getElem_append_left,Nat.lt_of_lt_of_le hi (Nat.le_add_right n g)]
theorem ready_left {listed:Array Bool}(hH:splitHeadB md l.toArray n=true)(hs:listed.size=n){i:Nat}(hi:i<n) :
  i ∈ Region.ready md l.toArray (listed++Array.replicate (l.length-n) false)↔i ∈ Region.ready md (l.take n).toArray listed:=by
 rw [mem_ready,mem_ready,take_at i hi,getD_left (d':=true) hs hi]
 refine and_congr Iff.rfl (exists_congr fun o=>and_congr_right fun ho=>forall_congr' fun e=>forall_congr' fun he=>forall_congr' fun hb=>?_)
 have h1:=(splitHead_spec hH hi ho).1 e he hb
 rw [getD_left (d':=false) hs (by omega)]
theorem all_listed {listed:Array Bool}(hH:splitHeadB md l.toArray n=true)(hn:n<l.length)(hs:listed.size=n)(hr:Region.ready md (l.take n).toArray listed = []):listed=Array.replicate n true:=by
 have key:∀ i,i<n→listed.getD i true=true:=by
  intro i
  induction i using Nat.strongRecOn with
  | _ i ih =>
    intro hi
    cases hl:listed.getD i true with
    | true=>rfl
    | false =>
      have ho:∃ o,l.toArray[i]? = some o:=⟨l[i]'(by omega),by simp⟩
      obtain⟨o,ho⟩:=ho
      have:i ∈ Region.ready md (l.take n).toArray listed:=by
       rw [mem_ready,take_at i hi]
       refine⟨hl,o,ho,fun e he hb=>?_⟩
       have h1:=(splitHead_spec hH hi ho).1 e he hb
       have h2:=ih e.on h1 (by omega)
       have h3:e.on<listed.size:=by omega
       simpa [Array.getD,h3] using h2
      rw [hr]at this
      cases this
 refine Array.ext (by simp [hs]) fun i h1 h2=>?_
 have:=key i (by omega)
 simpa [Array.getD,h1] using this
theorem wpAny_split (hB:splitB md l.toArray n=true):∀(f:Nat) (listed:Array Bool) (a:Act) (w:World),listed.size=n→HeadInv md l.toArray n (listed++Array.replicate (l.length-n) false)→
  wpAny P md (l.take n).toArray (tailPost P l.toArray Q (l.drop n)) f listed a w→wpAny P md l.toArray Q (f+(l.length-n)) (listed++Array.replicate (l.length-n) false) a w:=by
 simp only [splitB,Bool.and_eq_true,decide_eq_true_eq,List.size_toArray]at hB
 obtain⟨⟨⟨⟨hn,hsink⟩,hchain⟩,hH⟩,hseq⟩:=hB
 have ended:∀(f:Nat) (listed:Array Bool) (a:Act) (w:World),listed.size=n→Region.ready md (l.take n).toArray listed = []→wpList P l.toArray Q (l.drop n) a w →
   wpAny P md l.toArray Q (f+(l.length-n)) (listed++Array.replicate (l.length-n) false) a w:=by
  intro f listed a w hs hr h
  rw [all_listed hH hn hs hr]
  have hdl:(l.drop n).length=l.length-n:=by simp
  have h1:=wpAny_of_seq (P:=P) (md:=md) (ops:=l.toArray) (Q':=Q) (l.drop n) n (Array.replicate n true++Array.replicate (l.length-n) false) a w (fun j=>by simp [List.getElem?_drop]) (by rw [hdl];exact hseq) h
  rw [hdl]at h1
  exact wpAny_mores _ _ _ _ h1 f
 intro f
 induction f with
 | zero=>intro listed a w hs _ h;exact ended 0 listed a w hs h.1 h.2
 | succ f ih =>
   intro listed a w hs inv h
   by_cases hr:Region.ready md (l.take n).toArray listed = []
   ·exact ended (f+1) listed a w hs hr (h.1 hr)
   ·obtain⟨i0,hi0⟩:=List.exists_mem_of_ne_nil _ hr
    have hi0n:i0<n:=by
     obtain⟨_,o,ho,_⟩:=mem_ready.1 hi0
     have:=(Array.getElem?_eq_some_iff.1 ho).1
     simp at this;omega
    have hi0f:=(ready_left hH hs hi0n).2 hi0
    have hun:=(mem_ready.1 hi0f).1
    rw [show f+1+(l.length-n)=(f+(l.length-n))+1 by omega]
    refine⟨fun h0=>(by rw [h0]at hi0f;cases hi0f),fun i hi=>?_⟩
    have hin:i<n:=by
     rcases Nat.lt_or_ge i n with h' | h'
     ·exact h'
     ·exact absurd hi (tail_waits hsink hchain (by simpa using hn) inv _ i0 rfl hi0n hun i h')
    have hih:=(ready_left hH hs hin).1 hi
    have hset:(listed++Array.replicate (l.length-n) false).setIfInBounds i true=listed.setIfInBounds i true++Array.replicate (l.length-n) false:=by
     exact Array.setIfInBounds_append_left (by omega)
    refine wpOp_tail hH hin (fun a' w' h'=>?_) (h.2 i hih)
    rw [hset]
    refine ih _ a' w' (by simp [hs]) ?_ h'
    rw [← hset]
    exact inv.set hi hin
end
open Go.Sort in
theorem region_split_below {P:Program}{id:Nat}{Q:Exit→Act→World→Prop}{a:Act}{w:World}{l:List Oper}(n:Nat)(hm:P.follows .mixedOrders=true)(hB:splitB .any l.toArray n=true)(hL:Region.lexB .any (l.take n).toArray=true)
  (h:wpQuiet P (l.take n).toArray (fun w' => ∃ p:Regrown,w'=grow (redrawn w p.d) p.os) (fun a' => ∀ w',(∃ p:Regrown,w'=grow (redrawn w p.d) p.os)→wpList P l.toArray Q (l.drop n) a' w') (l.take n) a):(Code.region id l.toArray true).wp P Q a w:=by
 refine wp_region_any hm ?_
 have hB':=hB
 simp only [splitB,Bool.and_eq_true,decide_eq_true_eq,List.size_toArray]at hB'
 have hn:n<l.length:=hB'.1.1.1.1
 have e:Array.replicate n false++Array.replicate (l.length-n) false=Array.replicate l.toArray.size false:=by
  rw [List.size_toArray]
  conv=>rhs;rw [show l.length=n+(l.length-n) by omega]
  exact Array.replicate_append_replicate
 have inv0:HeadInv .any l.toArray n (Array.replicate n false++Array.replicate (l.length-n) false):=by
  rw [e]
  exact⟨by simp,fun j oj _ hl=>(by rw [getD_replicate_false]at hl;cases hl),fun t _ ht=>getD_in (by simpa using ht) (getD_replicate_false _ _)⟩
 have hq:wpAny P .any (l.take n).toArray (tailPost P l.toArray Q (l.drop n)) n (Array.replicate n false) a w.drew:=by
  simp only [Region.lexB,Bool.and_eq_true]at hL
  have hlen:(l.take n).length=n:=by simp;omega
  have hx:=wpAnyQ_lex (P:=P) (C:=fun w' => ∃ p:Regrown,w'=grow (redrawn w p.d) p.os) (md:=.any) hL.1 (l.take n) 0 (Array.replicate n false) a (by simp) (by simpa [hlen] using hL.2) h
  rw [hlen]at hx
  exact wpAny_of_quiet (Q:=fun a' => ∀ w',(∃ p:Regrown,w'=grow (redrawn w p.d) p.os)→wpList P l.toArray Q (l.drop n) a' w') (fun _ w' hw' h=>h w' hw') _ _ _ _ ⟨⟨w.drawn+1,#[]⟩,by rw [grow_empty];rfl⟩ hx
 have:=wpAny_split (P:=P) (Q:=Q) hB n (Array.replicate n false) a w.drew (by simp) inv0 hq
 rw [e,show n+(l.length-n)=l.toArray.size by simp;omega]at this
 exact this
theorem wpList_of_quiet {P:Program}{ops:Array Oper}{Q:Exit→Act→World→Prop}{C:World→Prop}{Q':Act→Prop}{tail:List Oper}(hQ:∀ a w,C w→Q' a→wpList P ops Q tail a w) :
  ∀(head:List Oper) (a:Act) (w:World),C w→wpQuiet P ops C Q' head a→wpList P ops Q (head++tail) a w
 | [],a,w,hw,h=>hQ a w hw h
 | o :: r,a,w,hw,h=>by
   show(if Region.wanted o (yielded ops a.tmps)then _ else _)
   change(if Region.wanted o (yielded ops a.tmps)then o.quiet P a C (wpQuiet P ops C Q' r)else wpQuiet P ops C Q' r (a.put o.dst undef))at h
   split
   ·rename_i hw'
    rw [if_pos hw']at h
    exact .inl (Oper.wp_of_quiet hw (fun a' w' hc hk=>wpList_of_quiet hQ r a' w' hc hk) h)
   ·rename_i hw'
    rw [if_neg hw']at h
    exact wpList_of_quiet hQ r _ w hw h
open Go.Sort in
theorem region_seq_below {P:Program}{id:Nat}{Q:Exit→Act→World→Prop}{a:Act}{w:World}{l:List Oper}(n:Nat)
  (h:wpQuiet P l.toArray (fun w' => ∃ p:Regrown,w'=grow (redrawn w p.d) p.os) (fun a' => ∀ w',(∃ p:Regrown,w'=grow (redrawn w p.d) p.os)→wpList P l.toArray Q (l.drop n) a' w') (l.take n) a):(Code.region id l.toArray false).wp P Q a w:=by
 refine wp_region ?_
 have e:=wpOps_eq_wpList (P:=P) (Q:=Q) (ops:=l.toArray) l 0 (fun j=>by simp)
 rw [List.range_eq_range',show l.toArray.size=l.length by simp,e]
 have hx:=wpList_of_quiet (P:=P) (ops:=l.toArray) (Q:=Q) (tail:=l.drop n) (fun a w' hw' h=>h w' hw') (l.take n) a w ⟨⟨w.drawn,#[]⟩,by rw [grow_empty];rfl⟩ h
 rwa [List.take_append_drop]at hx
end Go.Proofs.Ytgekekhbhkgekaa
