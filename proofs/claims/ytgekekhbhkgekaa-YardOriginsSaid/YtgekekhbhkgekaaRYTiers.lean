/- A region that draws its order, with two kinds of what stays: H2 stays throughout, H until one of Bk has come up (XYHold with a second tier). For 'a.X, a.Y = a.X + f, a.Y + g': the second load may come behind the first store. -/
import Derived.Test.YtgekekhbhkgekaaRYIter
namespace Go.Proofs.Ytgekekhbhkgekaa
open Go Go.RowKit
section
variable {P:Program} {ops:Array Oper} {Q:Exit→Act→World→Prop} {md:Region.Mode} {H H2 H':World→Prop} {Bk:List Nat}
def Till2 (Bk:List Nat)(H H2:World→Prop)(listed:Array Bool)(w:World):Prop:=H2 w∧Till Bk H listed w
theorem Till2.set_ {listed:Array Bool}{i:Nat}{w:World}(hi:Bk.contains i=false):Till2 Bk H H2 (listed.setIfInBounds i true) w↔Till2 Bk H H2 listed w:=by unfold Till2;rw [Till.set_ hi]
def wpAny2 (P:Program)(md:Region.Mode)(ops:Array Oper)(Q:Exit→Act→World→Prop)(Bk:List Nat)(H H2:World→Prop):Nat→Array Bool→Act→World→Prop
 | 0,listed,a,w=>Region.ready md ops listed = []∧Q .normal a w
 | fuel+1,listed,a,w =>
   (Region.ready md ops listed = []→Q .normal a w)∧
   ∀ i ∈ Region.ready md ops listed,wpOp P ops Q i (fun a' w'=>Till2 Bk H H2 (listed.setIfInBounds i true) w'∧wpAny2 P md ops Q Bk H H2 fuel (listed.setIfInBounds i true) a' w') a w
theorem wpAny_of_2:∀(fuel:Nat) (listed:Array Bool) (a:Act) (w:World),wpAny2 P md ops Q Bk H H2 fuel listed a w→wpAny P md ops Q fuel listed a w
 | 0,_,_,_,h=>h
 | fuel+1,_,_,_,h=>⟨h.1,fun i hi=>wpOp_mono (fun a' w' h'=>wpAny_of_2 fuel _ a' w' h'.2) (h.2 i hi)⟩
theorem wpAny2_first {i:Nat}{oi:Oper}{v:Value}(hi:ops[i]? = some oi)(hsel:∀(j:Nat) (o:Oper) cs b,ops[j]? = some o→o.op≠.select cs b)
  (hQ:∀ c a w,Q (.panic c) (a.put oi.dst v) w→Q (.panic c) a w) (hiB:Bk.contains i=false)
  (hw:(∀ w,H2 w→H' w)∨((∀ w,H w→H' w)∧∀ j oj,j ∈ Bk→ops[j]? = some oj→∃ e ∈ oj.after,Region.binds md e=true∧e.on=i)) :
  ∀ (fuel:Nat) (listed:Array Bool) (a:Act) (w:World),
    (∀ j oj,ops[j]? = some oj→j≠i→listed.getD j true=false→(∀ e ∈ oj.after,Region.binds md e=true→e.on≠i)→oi.apart ops oj=true)→
    i ∈ Region.ready md ops listed→YieldsIf P ops H' oi v a→Till2 Bk H H2 listed w→((∀ w,H2 w→H' w)∨(Bk.any fun j=>listed.getD j false)=false)→
    wpAny2 P md ops Q Bk H H2 fuel (listed.setIfInBounds i true) (a.put oi.dst v) w→wpAny2 P md ops Q Bk H H2 (fuel+1) listed a w:=by
 have here:∀(listed:Array Bool) (w:World),Till2 Bk H H2 listed w→((∀ w,H2 w→H' w)∨(Bk.any fun j=>listed.getD j false)=false)→H' w:=fun listed w hT hB=>by
  rcases hw with h | ⟨h,_⟩
  ·exact h w hT.1
  ·rcases hB with h' | h'
   ·exact h' w hT.1
   ·exact h w (hT.2 h')
 intro fuel
 induction fuel with
 | zero =>
   intro listed a w _ hr hy hT hB h
   refine⟨fun h0=>(by rw [h0]at hr;cases hr),fun j hj=>?_⟩
   by_cases hji:j=i
   ·subst hji;exact hy.wpOp hi (here _ _ hT hB) ⟨(Till2.set_ hiB).2 hT,h⟩
   ·have:=ready_mono hj hji
    rw [h.1]at this
    cases this
 | succ fuel ih =>
   intro listed a w hfree hr hy hT hB h
   refine⟨fun h0=>(by rw [h0]at hr;cases hr),fun j hj=>?_⟩
   by_cases hji:j=i
   ·subst hji;exact hy.wpOp hi (here _ _ hT hB) ⟨(Till2.set_ hiB).2 hT,h⟩
   ·have h1:=h.2 j (ready_mono hj hji)
    obtain⟨hjun,oj,hoj,hall⟩:=mem_ready.1 hj
    have hnot:∀ e ∈ oj.after,Region.binds md e=true→e.on≠i:=fun e he hb heq=>by
     have h1:=hall e he hb
     have h0:=(mem_ready.1 hr).1
     rw [heq]at h1
     rcases Nat.lt_or_ge i listed.size with h' | h'
     ·simp [h']at h0 h1;rw [h0]at h1;cases h1
     ·simp [Array.getElem?_eq_none h']at h1
    have h2:=wpOp_putIf hoj (hfree j oj hoj hji hjun hnot) (fun cs b=>hsel i oi cs b hi) (fun cs b=>hsel j oj cs b hoj) hQ hy h1
    have hfree':∀ k ok,ops[k]? = some ok→k≠i→(listed.setIfInBounds j true).getD k true=false →
      (∀ e ∈ ok.after,Region.binds md e=true→e.on≠i)→oi.apart ops ok=true:=fun k ok hk hki hun hno=>by
     refine hfree k ok hk hki ?_ hno
     by_cases hjk:j=k
     ·subst hjk;exact hjun
     ·rw [getD_set_ne true hjk]at hun;exact hun
    have hB':(∀ w,H2 w→H' w)∨(Bk.any fun k=>(listed.setIfInBounds j true).getD k false)=false:=by
     rcases hw with h' | ⟨_,h'⟩
     ·exact .inl h'
     ·rcases hB with hB | hB
      ·exact .inl hB
      ·refine .inr ?_
       rw [any_set ?_]
       ·exact hB
       ·cases hc:Bk.contains j with
        | false=>rfl
        | true =>
          obtain⟨e,he,hb,heq⟩:=h' j oj (by simpa using hc) hoj
          exact absurd heq (hnot e he hb)
    refine wpOp_mono (fun a' w' h3=>?_) h2
    have hT':Till2 Bk H H2 (listed.setIfInBounds j true) w':=by
     have:=h3.2.1
     rw [Array.setIfInBounds_comm _ _ (Ne.symm hji),Till2.set_ hiB]at this
     exact this
    refine⟨hT',ih (listed.setIfInBounds j true) a' w' hfree' (ready_mono hr (Ne.symm hji)) h3.1 hT' hB' ?_⟩
    rw [Array.setIfInBounds_comm _ _ hji]
    exact h3.2.2
theorem till2_load {i:Nat}{oi:Oper}{v:Value}{d:Tmp}{fuel:Nat}{listed:Array Bool}{a:Act}{w:World}(hi:ops[i]? = some oi)(hd:oi.dst=some d)
  (hB:(Region.noSelect ops && Region.free md ops listed i && (Region.ready md ops listed).contains i && !Bk.contains i && waitsB md ops Bk i && !(Bk.any fun j=>listed.getD j false))=true)
  (hQ:∀ c a w,Q (.panic c) (a.put oi.dst v) w→Q (.panic c) a w) (hy:YieldsIf P ops H oi v a) (hT:Till2 Bk H H2 listed w)
  (h:wpAny2 P md ops Q Bk H H2 fuel (listed.setIfInBounds i true) ⟨a.tmps.setIfInBounds d v,a.defers⟩ w):wpAny2 P md ops Q Bk H H2 (fuel+1) listed a w:=by
 simp only [Bool.and_eq_true,Bool.not_eq_true']at hB
 obtain⟨⟨⟨⟨⟨h1,h2⟩,h3⟩,h4⟩,h5⟩,h6⟩:=hB
 refine wpAny2_first (H':=H) hi (Region.noSelect_spec h1) hQ h4 (.inr ⟨fun _ h=>h,fun j oj hj ho=>?_⟩) fuel listed a w (Region.free_spec hi h2) (by simpa using h3) hy hT (.inr h6) (by rw [hd];exact h)
 have:=List.all_eq_true.1 h5 j hj
 simp only [ho,Array.any_eq_true']at this
 obtain⟨e,he,hb⟩:=this
 simp only [Bool.and_eq_true,beq_iff_eq]at hb
 exact⟨e,he,hb.1,hb.2⟩
theorem till2_keep {i:Nat}{oi:Oper}{v:Value}{d:Tmp}{fuel:Nat}{listed:Array Bool}{a:Act}{w:World}(hi:ops[i]? = some oi)(hd:oi.dst=some d)
  (hB:(Region.noSelect ops && Region.free md ops listed i && (Region.ready md ops listed).contains i && !Bk.contains i)=true)
  (hQ:∀ c a w,Q (.panic c) (a.put oi.dst v) w→Q (.panic c) a w) (hy:YieldsIf P ops H2 oi v a) (hT:Till2 Bk H H2 listed w)
  (h:wpAny2 P md ops Q Bk H H2 fuel (listed.setIfInBounds i true) ⟨a.tmps.setIfInBounds d v,a.defers⟩ w):wpAny2 P md ops Q Bk H H2 (fuel+1) listed a w:=by
 simp only [Bool.and_eq_true,Bool.not_eq_true']at hB
 obtain⟨⟨⟨h1,h2⟩,h3⟩,h4⟩:=hB
 exact wpAny2_first (H':=H2) hi (Region.noSelect_spec h1) hQ h4 (.inl fun _ h=>h) fuel listed a w (Region.free_spec hi h2) (by simpa using h3) hy hT (.inl fun _ h=>h) (by rw [hd];exact h)
theorem till2_pure {i:Nat}{oi:Oper}{v:Value}{d:Tmp}{fuel:Nat}{listed:Array Bool}{a:Act}{w:World}(hi:ops[i]? = some oi)(hd:oi.dst=some d)
  (hB:(Region.noSelect ops && Region.free md ops listed i && (Region.ready md ops listed).contains i && !Bk.contains i)=true)
  (hQ:∀ c a w,Q (.panic c) (a.put oi.dst v) w→Q (.panic c) a w) (hy:YieldsIf P ops (fun _=>True) oi v a) (hT:Till2 Bk H H2 listed w)
  (h:wpAny2 P md ops Q Bk H H2 fuel (listed.setIfInBounds i true) ⟨a.tmps.setIfInBounds d v,a.defers⟩ w):wpAny2 P md ops Q Bk H H2 (fuel+1) listed a w:=by
 simp only [Bool.and_eq_true,Bool.not_eq_true']at hB
 obtain⟨⟨⟨h1,h2⟩,h3⟩,h4⟩:=hB
 exact wpAny2_first (H':=fun _=>True) hi (Region.noSelect_spec h1) hQ h4 (.inl fun _ _=>trivial) fuel listed a w (Region.free_spec hi h2) (by simpa using h3) hy hT (.inl fun _ _=>trivial) (by rw [hd];exact h)
theorem till2_only {j:Nat}{o:Oper}{fuel:Nat}{listed:Array Bool}{a:Act}{w:World}(hr:Region.ready md ops listed = [j])(ho:ops[j]? = some o)
  (h:wpList P ops (Exit.then (fun a' w'=>Till2 Bk H H2 (listed.setIfInBounds j true) w'∧wpAny2 P md ops Q Bk H H2 fuel (listed.setIfInBounds j true) a' w') Q) [o] a w):wpAny2 P md ops Q Bk H H2 (fuel+1) listed a w:=by
 refine⟨fun h0=>(by rw [hr]at h0;cases h0),fun i hi=>?_⟩
 rw [hr]at hi
 cases List.mem_singleton.1 hi
 unfold wpOp
 rw [ho]
 change(if Region.wanted o (yielded ops a.tmps)then o.wp P a w (wpList P ops _ []) _∨(o.asks P a w∧LetsOut _)else _)at h
 dsimp only
 split
 ·rename_i hw
  rw [if_pos hw]at h
  rcases h with h | ⟨h1,a',w',h2⟩
  ·exact .inl (oper_then h)
  ·exact .inr ⟨h1,a',w',h2⟩
 ·rename_i hw
  rw [if_neg hw]at h
  exact h
theorem till2_done {fuel:Nat}{listed:Array Bool}{a:Act}{w:World}(hr:Region.ready md ops listed = [])(h:Q .normal a w):wpAny2 P md ops Q Bk H H2 fuel listed a w:=by
 cases fuel with
 | zero=>exact⟨hr,h⟩
 | succ f=>exact⟨fun _=>h,by rw [hr];simp⟩
theorem region_till2 {id:Nat}{a:Act}{w:World}(Bk:List Nat)(H H2:World→Prop)(n:Nat)(l0:List Bool)(hm:P.follows .mixedOrders=true)(hn:ops.size=n)(hl:List.replicate n false=l0)(h:wpAny2 P .any ops Q Bk H H2 n l0.toArray a w.drew):(Code.region id ops true).wp P Q a w:=by
 subst hn hl
 refine wp_region_any hm (wpAny_of_2 (Bk:=Bk) (H:=H) (H2:=H2) _ _ _ _ ?_)
 rwa [List.toArray_replicate]at h
end
end Go.Proofs.Ytgekekhbhkgekaa
