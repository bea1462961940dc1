/- The document's deed: all kinds together. -/
import Derived.Test.YtgekekhbhkgekaaQYRefDeed
import Derived.Test.YtgekekhbhkgekaaQYRefDeedB
import Derived.Test.YtgekekhbhkgekaaQYRefDeedC
import Derived.Test.YtgekekhbhkgekaaQYRefDeedD
import Derived.Test.YtgekekhbhkgekaaQYRefDeedE
import Derived.Test.YtgekekhbhkgekaaQYRefDeedF
import Derived.Test.YtgekekhbhkgekaaQYRefDeedG
import Derived.Test.YtgekekhbhkgekaaQYRefDeedH
namespace Go.Proofs.Ytgekekhbhkgekaa
open Go Go.RowKit Go.Shelf Yd
open _root_.Go.Value renaming int → Z
open _root_.Go.IntKind renaming i64 → O
theorem at_new {rows:List SRow}{c:Code}(h:¬ at_ (rows.map (·.1)) c<rows.length):∀ r ∈ rows,r.1.code≠c:=by
 intro r hr hc
 refine h ?_
 unfold at_
 have h1:=List.findIdx_lt_length_of_exists (xs:=rows.map (·.1)) (p:=fun x=>decide (x.code=c)) ⟨r.1,List.mem_map.2 ⟨r,hr,rfl⟩,by simpa using hc⟩
 rwa [List.length_map]at h1
theorem fault_ok {be af:Int}{rows:List SRow}{acc:Yd.Acc}{d:Deed Code}(f0:Yd.fault be af (stOf rows acc) d=0) :
  (d.kind=1→¬ at_ (rows.map (·.1)) d.stack<rows.length∧rows.length<8)∧(d.kind≠1→at_ (rows.map (·.1)) d.stack<rows.length)∧(d.kind=5→¬ at_ (rows.map (·.1)) d.other<rows.length∧rows.length<8)∧(d.kind=6→at_ (rows.map (·.1)) d.other<rows.length):=by
 unfold Yd.fault at f0
 split at f0
 ·cases f0
 rename_i h1
 split at f0
 ·cases f0
 rename_i h2
 simp only [stOf,List.length_map,not_or]at h1 h2
 obtain⟨a1,a2,a3,a4⟩:=h1
 refine⟨fun hk=>⟨fun h=>?_,?_⟩,fun hk=>?_,fun hk=>⟨fun h=>a3 ⟨hk,h⟩,?_⟩,fun hk=>?_⟩
 ·exact a1 (by rw [decide_eq_true h,decide_eq_true hk])
 ·rcases Nat.lt_or_ge rows.length 8 with h | h
  ·exact h
  ·exact absurd ⟨.inl hk,h⟩ h2
 ·rcases Decidable.em (at_ (rows.map (·.1)) d.stack<rows.length)with h | h
  ·exact h
  ·exact absurd (by rw [decide_eq_false h,decide_eq_false hk]) a1
 ·rcases Nat.lt_or_ge rows.length 8 with h | h
  ·exact h
  ·exact absurd ⟨.inr hk,h⟩ h2
 ·rcases Decidable.em (at_ (rows.map (·.1)) d.other<rows.length)with h | h
  ·exact h
  ·exact absurd ⟨hk,h⟩ a4
theorem rdeed_calls {be af:Int}(tv:Value)(rows:List SRow)(acc:Yd.Acc)(d:Deed Code)(i:Nat)(w:World)(hst:Stands w rows tv)(hs:SmallSt i (stOf rows acc))(hi:i≤12)(fd:Fits d)(hsz:d.stack.size≤maxLen∧d.other.size≤maxLen)(f0:Yd.fault be af (stOf rows acc) d=0) :
  Calls Try.prog 52 #[.agg (tv :: accCells acc).toArray,.agg (deedCells d).toArray,Z O i] w (RDeedDone w rows acc d i):=by
 obtain⟨o1,o2,o3,o4⟩:=fault_ok f0
 obtain⟨⟨v0,v1⟩,⟨b0,b1⟩,⟨u0,u1⟩,⟨s0,s1⟩,⟨x0,x1⟩,⟨k0,k1⟩⟩:=acc
 obtain⟨kind,day,code,other,⟨al,ah⟩,⟨bl,bh⟩⟩:=d
 have hkk:=fd.fine.kind
 simp only at o1 o2 o3 o4 hsz hkk
 by_cases e1:kind=1
 ·subst e1
  exact rdeed_one tv rows v0 v1 b0 b1 u0 u1 s0 s1 x0 x1 k0 k1 day code other al ah bl bh i w hst hs hi fd hsz (at_new (o1 rfl).1) (o1 rfl).2
 have hk:=o2 e1
 rcases rx_cases rows code with⟨k,p,hix,hp,hat,hkl,hpc⟩ | ⟨_,hno⟩
 rotate_left
 ·exact absurd hk hno
 obtain⟨fa,fn,fc,hpv⟩:=from_slices hst p (List.mem_of_getElem? hp)
 obtain⟨⟨xc,⟨dl,dh⟩,⟨wl,wh⟩,pil,boi,src⟩,pv⟩:=p
 simp only at hpv
 subst hpv
 by_cases e2:kind=2
 ·subst e2
  exact rdeed_two tv rows v0 v1 b0 b1 u0 u1 s0 s1 x0 x1 k0 k1 day code other al ah bl bh i w hst hs hi fd hsz k xc dl dh wl wh pil boi src fa fn fc hp hix hat
 by_cases e3:kind=3
 ·subst e3
  exact rdeed_three tv rows v0 v1 b0 b1 u0 u1 s0 s1 x0 x1 k0 k1 day code other al ah bl bh i w hst hs hi fd hsz k xc dl dh wl wh pil boi src fa fn fc hp hix hat
 by_cases e4:kind=4
 ·subst e4
  exact rdeed_four tv rows v0 v1 b0 b1 u0 u1 s0 s1 x0 x1 k0 k1 day code other al ah bl bh i w hst hs hi fd hsz k xc dl dh wl wh pil boi src fa fn fc hp hix hat
 by_cases e5:kind=5
 ·subst e5
  exact rdeed_five tv rows v0 v1 b0 b1 u0 u1 s0 s1 x0 x1 k0 k1 day code other al ah bl bh i w hst hs hi fd hsz k xc dl dh wl wh pil boi src fa fn fc hp hix hat (at_new (o3 rfl).1) (o3 rfl).2
 by_cases e6:kind=6
 ·subst e6
  rcases rx_cases rows other with⟨o,q,hox,hq,hao,hol,_⟩ | ⟨_,hno⟩
  rotate_left
  ·exact absurd (o4 rfl) hno
  obtain⟨ga,gn,gc,hqv⟩:=from_slices hst q (List.mem_of_getElem? hq)
  obtain⟨⟨yc,⟨dl2,dh2⟩,⟨wl2,wh2⟩,pil2,boi2,src2⟩,qv⟩:=q
  simp only at hqv
  subst hqv
  exact rdeed_six tv rows v0 v1 b0 b1 u0 u1 s0 s1 x0 x1 k0 k1 day code other al ah bl bh i w hst hs hi fd hsz k xc dl dh wl wh pil boi src fa fn fc hp hix hat o yc dl2 dh2 wl2 wh2 pil2 boi2 src2 ga gn gc hq hox hao
 by_cases e7:kind=7
 ·subst e7
  exact rdeed_seven tv rows v0 v1 b0 b1 u0 u1 s0 s1 x0 x1 k0 k1 day code other al ah bl bh i w hst hs hi fd hsz k xc dl dh wl wh pil boi src fa fn fc hp hix hat
 obtain rfl:kind=8:=by omega
 exact rdeed_eight tv rows v0 v1 b0 b1 u0 u1 s0 s1 x0 x1 k0 k1 day code other al ah bl bh i w hst hs hi fd hsz k xc dl dh wl wh pil boi src fa fn fc hp hix hat
end Go.Proofs.Ytgekekhbhkgekaa
