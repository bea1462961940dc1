/- The program's checks of any yard: what they say is what the plain words say. -/
import Derived.Test.YtgekekhbhkgekaaRYCheckYard
import Derived.Test.YtgekekhbhkgekaaRYFollow
namespace Go.Proofs.Ytgekekhbhkgekaa
open Go Go.RowKit Go.Shelf Yd
open Go.Value renaming int→Z,string→Zs,slice→Zl
open Go.IntKind renaming i64→O
open Go.Lib renaming hid→Zh
open Go renaming cell_regrown→Zg,below_regrown→Zk
set_option maxRecDepth 100000
set_option maxHeartbeats 16000000
def zB (lo hi:Int):Bool:=decide (lo=0∧hi=0)
theorem hasAny_0 (kind kind2 dy:Int)(s:ByteArray)(bo:Bool)(fn:Fn)(code other:Code)(al ah bl bh:Int)(ma:Option Addr)(w:World) :
  Calls Try.prog 75 #[.agg #[Z O kind,Zs s,.bool bo,Zl ma 0 0,.func fn #[] #[]],.agg #[Z O kind2,Z O dy,Zs code,Zs other,Z O al,Z O ah,Z O bl,Z O bh]] w fun e w'=>e=.returned (.bool (zB al ah && zB bl bh))∧Below w.heap.size w w':=by
 have HB0:=Zh (p:=Below w.heap.size w ((w.alloc (.cells #[Z O kind,Zs s,.bool bo,Zl ma 0 0,.func fn #[] #[]] 114)).alloc (.cells #[Z O kind2,Z O dy,Zs code,Zs other,Z O al,Z O ah,Z O bl,Z O bh] 55))) (((Below.refl w.heap.size w).alloc (Nat.le_refl _) _).alloc (by rw [World.size_alloc];omega) _)
 have HK0:=Zh ((Blk.new w 114 #[Z O kind,Zs s,.bool bo,Zl ma 0 0,.func fn #[] #[]]).alloc (.cells #[Z O kind2,Z O dy,Zs code,Zs other,Z O al,Z O ah,Z O bl,Z O bh] 55))
 have i0:∀ w:World,(Instr.index 130 (.agg #[Z O al,Z O ah,Z O bl,Z O bh]) (Z O 0)).run Try.prog w=.ok (.agg #[Z O al,Z O ah]) w:=fun _=>by kernel_rfl
 have i1:∀ w:World,(Instr.index 130 (.agg #[Z O al,Z O ah,Z O bl,Z O bh]) (Z O 1)).run Try.prog w=.ok (.agg #[Z O bl,Z O bh]) w:=fun _=>by kernel_rfl
 go_enter Try.func75,Try.ntmps75
 go_wp2
 go_loopw [12] (fun v wr => ∃ k:Nat,k≤2∧v=Z O k∧Hid (1≤k→zB al ah=true)∧Hid (k=2→zB bl bh=true)∧Hid (Below w.heap.size w wr)∧Hid (Blk wr w.heap.size 114 #[Z O kind,Zs s,.bool bo,Zl ma 0 0,.func fn #[] #[]])) (fun v _=>2-(intOf v).toNat)
 case atStart=>exact⟨0,by omega,rfl,Zh (fun h=>by omega),Zh (fun h=>by omega),HB0,HK0⟩
 case round =>
  obtain⟨k,hk,rfl,HA,HBB,HB,HK⟩:=hrel
  have y3:=HK.out.at 3 (Zl ma 0 0) rfl
  have hzr:w.heap.size<wr.heap.size:=HK.out.lt
  have hcase:k=0∨k=1∨k=2:=by omega
  rcases hcase with rfl | rfl | rfl
  ·go_upto_region 5 with(fail)
   by_cases hz:al=0∧ah=0
   ·have HV:=Zh (p:=zB al ah=true) (by simp [zB,hz])
    have hz1:(al == 0)=true:=by simp [hz.1]
    have hz2:(ah == 0)=true:=by simp [hz.2]
    have hz3:al=0:=hz.1
    have hz4:ah=0:=hz.2
    clear hz
    go_wp2
    go_roundw
    case rel=>exact⟨1,by omega,rfl,Zh (fun _=>HV.out),Zh (fun h=>by omega),Zh (HB.out.alloc HB.out.size _),Zh (HK.out.alloc _)⟩
    case measure=>simp [intOf]
   ·have HV:=Zh (p:=zB al ah=false) (by simp only [zB,decide_eq_false hz])
    have hz5:(al == 0 && ah == 0)=false:=by
     rcases Bool.eq_false_or_eq_true (al == 0 && ah == 0)with h | h
     ·simp only [Bool.and_eq_true,beq_iff_eq]at h;exact absurd h hz
     ·exact h
    have hz6:al=0→¬ ah=0:=fun h1 h2=>hz ⟨h1,h2⟩
    clear hz
    go_wp2
    all_goals (go_ret;exact⟨by rw [HV.out];simp,HB.out.alloc HB.out.size _⟩)
  ·go_upto_region 5 with(fail)
   by_cases hz:bl=0∧bh=0
   ·have HV:=Zh (p:=zB bl bh=true) (by simp [zB,hz])
    have hz1:(bl == 0)=true:=by simp [hz.1]
    have hz2:(bh == 0)=true:=by simp [hz.2]
    have hz3:bl=0:=hz.1
    have hz4:bh=0:=hz.2
    clear hz
    go_wp2
    go_roundw
    case rel=>exact⟨2,by omega,rfl,Zh (fun _=>HA.out (by first | trivial | omega)),Zh (fun h=>HV.out),Zh (HB.out.alloc HB.out.size _),Zh (HK.out.alloc _)⟩
    case measure=>simp [intOf]
   ·have HV:=Zh (p:=zB bl bh=false) (by simp only [zB,decide_eq_false hz])
    have hz5:(bl == 0 && bh == 0)=false:=by
     rcases Bool.eq_false_or_eq_true (bl == 0 && bh == 0)with h | h
     ·simp only [Bool.and_eq_true,beq_iff_eq]at h;exact absurd h hz
     ·exact h
    have hz6:bl=0→¬ bh=0:=fun h1 h2=>hz ⟨h1,h2⟩
    clear hz
    go_wp2
    all_goals (go_ret;exact⟨by rw [HA.out (by first | trivial | omega),HV.out];rfl,HB.out.alloc HB.out.size _⟩)
  ·go_wp2
   go_ret
   exact⟨by rw [HA.out (by first | trivial | omega),HBB.out (by first | trivial | rfl)];rfl,HB.out⟩
theorem hasAny_1 (kind kind2 dy:Int)(s:ByteArray)(bo:Bool)(fn:Fn)(code other:Code)(al ah bl bh:Int)(x:Int)(g:Nat)(w:World)(hg:Blk w g 3 #[Z O x]) :
  Calls Try.prog 75 #[.agg #[Z O kind,Zs s,.bool bo,Zl (some ⟨g,0,none⟩) 1 1,.func fn #[] #[]],.agg #[Z O kind2,Z O dy,Zs code,Zs other,Z O al,Z O ah,Z O bl,Z O bh]] w fun e w'=>e=.returned (.bool (boundsB al ah 0 x && zB bl bh))∧Below w.heap.size w w':=by
 have HB0:=Zh (p:=Below w.heap.size w ((w.alloc (.cells #[Z O kind,Zs s,.bool bo,Zl (some ⟨g,0,none⟩) 1 1,.func fn #[] #[]] 114)).alloc (.cells #[Z O kind2,Z O dy,Zs code,Zs other,Z O al,Z O ah,Z O bl,Z O bh] 55))) (((Below.refl w.heap.size w).alloc (Nat.le_refl _) _).alloc (by rw [World.size_alloc];omega) _)
 have HK0:=Zh ((Blk.new w 114 #[Z O kind,Zs s,.bool bo,Zl (some ⟨g,0,none⟩) 1 1,.func fn #[] #[]]).alloc (.cells #[Z O kind2,Z O dy,Zs code,Zs other,Z O al,Z O ah,Z O bl,Z O bh] 55))
 have i0:∀ w:World,(Instr.index 130 (.agg #[Z O al,Z O ah,Z O bl,Z O bh]) (Z O 0)).run Try.prog w=.ok (.agg #[Z O al,Z O ah]) w:=fun _=>by kernel_rfl
 have i1:∀ w:World,(Instr.index 130 (.agg #[Z O al,Z O ah,Z O bl,Z O bh]) (Z O 1)).run Try.prog w=.ok (.agg #[Z O bl,Z O bh]) w:=fun _=>by kernel_rfl
 have HG:=Zh hg
 have HGL:=Zh hg.lt
 clear hg
 go_enter Try.func75,Try.ntmps75
 go_wp2
 go_loopw [12] (fun v wr => ∃ k:Nat,k≤2∧v=Z O k∧Hid (1≤k→boundsB al ah 0 x=true)∧Hid (k=2→zB bl bh=true)∧Hid (Below w.heap.size w wr)∧Hid (Blk wr w.heap.size 114 #[Z O kind,Zs s,.bool bo,Zl (some ⟨g,0,none⟩) 1 1,.func fn #[] #[]])) (fun v _=>2-(intOf v).toNat)
 case atStart=>exact⟨0,by omega,rfl,Zh (fun h=>by omega),Zh (fun h=>by omega),HB0,HK0⟩
 case round =>
  obtain⟨k,hk,rfl,HA,HBB,HB,HK⟩:=hrel
  have y3:=HK.out.at 3 (Zl (some ⟨g,0,none⟩) 1 1) rfl
  have hzr:w.heap.size<wr.heap.size:=HK.out.lt
  have hcase:k=0∨k=1∨k=2:=by omega
  rcases hcase with rfl | rfl | rfl
  ·have k6:=(Blk.new wr 32 #[Z O al,Z O ah]).at 0 (Z O al) rfl
   have k7:=(Blk.new wr 32 #[Z O al,Z O ah]).at 1 (Z O ah) rfl
   have HK3:=Zh (HK.out.alloc (.cells #[Z O al,Z O ah] 32))
   have k3:=HK3.out.at 3 (Zl (some ⟨g,0,none⟩) 1 1) rfl
   have kg:=((Below.blk HB.out HG.out HGL.out).alloc (.cells #[Z O al,Z O ah] 32)).at 0 (Z O x) rfl
   have HB1:=Zh (HB.out.alloc HB.out.size (.cells #[Z O al,Z O ah] 32))
   obtain⟨b,hb⟩:∃ b,b=boundsB al ah 0 x:=⟨_,rfl⟩
   have HV:=Zh hb.symm
   go_upto_region 7 with(fail)
   generalize World.alloc _ _=wv at k6 k7 k3 kg HB1 HK3 ⊢
   have c6:=Zg k6
   have c7:=Zg k7
   have c3:=Zg k3
   have cg:=Zg kg
   have cA:∀ d os,Calls Try.prog 81 #[.agg #[Z O al,Z O ah],Z O 0,Z O x] (Go.Sort.grow (redrawn wv d) os) fun e w''=>e=.returned (.bool b)∧∃ p:Regrown,w''=Go.Sort.grow (redrawn wv p.d) p.os:=regrown_calls (fun w=>by rw [hb];exact(areBounds_calls al ah 0 x w).mono fun e w' he=>⟨he.1,by rw [he.2];exact(Below.refl _ _).alloc (Nat.le_refl _) _⟩)
   clear k6 k7 k3 kg hb
   refine wp_region_quiet_below (by kernel_rfl) (by kernel_rfl) ?_
   repeat(go_big_quiet_step (with_reducible exact cA _ _))
   refine wpQuiet_nil ?_
   intro w8 hw'
   have hb8:Below wv.heap.size wv w8:=by obtain⟨⟨dq,osq⟩,hw''⟩:=hw';rw [hw''];exact Zk wv dq osq
   have HB8:=Zh (HB1.out.trans (hb8.mono HB1.out.size))
   have HK8:=Zh (HK3.out.below hb8)
   clear hw' hb8 c6 c7 c3 cg cA
   cases b with
   | true =>
     go_wp2
     go_roundw
     case rel=>exact⟨1,by omega,rfl,Zh (fun _=>HV.out),Zh (fun h=>by omega),HB8,HK8⟩
     case measure=>simp [intOf]
   | false =>
     go_wp2
     go_ret
     exact⟨by rw [HV.out];simp,HB8.out⟩
  ·go_upto_region 5 with(fail)
   by_cases hz:bl=0∧bh=0
   ·have HV:=Zh (p:=zB bl bh=true) (by simp [zB,hz])
    have hz1:(bl == 0)=true:=by simp [hz.1]
    have hz2:(bh == 0)=true:=by simp [hz.2]
    have hz3:bl=0:=hz.1
    have hz4:bh=0:=hz.2
    clear hz
    go_wp2
    go_roundw
    case rel=>exact⟨2,by omega,rfl,Zh (fun _=>HA.out (by first | trivial | omega)),Zh (fun h=>HV.out),Zh (HB.out.alloc HB.out.size _),Zh (HK.out.alloc _)⟩
    case measure=>simp [intOf]
   ·have HV:=Zh (p:=zB bl bh=false) (by simp only [zB,decide_eq_false hz])
    have hz5:(bl == 0 && bh == 0)=false:=by
     rcases Bool.eq_false_or_eq_true (bl == 0 && bh == 0)with h | h
     ·simp only [Bool.and_eq_true,beq_iff_eq]at h;exact absurd h hz
     ·exact h
    have hz6:bl=0→¬ bh=0:=fun h1 h2=>hz ⟨h1,h2⟩
    clear hz
    go_wp2
    all_goals (go_ret;exact⟨by rw [HA.out (by first | trivial | omega),HV.out];rfl,HB.out.alloc HB.out.size _⟩)
  ·go_wp2
   go_ret
   exact⟨by rw [HA.out (by first | trivial | omega),HBB.out (by first | trivial | rfl)];rfl,HB.out⟩
theorem hasAny_2 (kind kind2 dy:Int)(s:ByteArray)(bo:Bool)(fn:Fn)(code other:Code)(al ah bl bh:Int)(x y:Int)(g:Nat)(w:World)(hg:Blk w g 3 #[Z O x,Z O y]) :
  Calls Try.prog 75 #[.agg #[Z O kind,Zs s,.bool bo,Zl (some ⟨g,0,none⟩) 2 2,.func fn #[] #[]],.agg #[Z O kind2,Z O dy,Zs code,Zs other,Z O al,Z O ah,Z O bl,Z O bh]] w fun e w'=>e=.returned (.bool (boundsB al ah 0 x && boundsB bl bh 0 y))∧Below w.heap.size w w':=by
 have HB0:=Zh (p:=Below w.heap.size w ((w.alloc (.cells #[Z O kind,Zs s,.bool bo,Zl (some ⟨g,0,none⟩) 2 2,.func fn #[] #[]] 114)).alloc (.cells #[Z O kind2,Z O dy,Zs code,Zs other,Z O al,Z O ah,Z O bl,Z O bh] 55))) (((Below.refl w.heap.size w).alloc (Nat.le_refl _) _).alloc (by rw [World.size_alloc];omega) _)
 have HK0:=Zh ((Blk.new w 114 #[Z O kind,Zs s,.bool bo,Zl (some ⟨g,0,none⟩) 2 2,.func fn #[] #[]]).alloc (.cells #[Z O kind2,Z O dy,Zs code,Zs other,Z O al,Z O ah,Z O bl,Z O bh] 55))
 have i0:∀ w:World,(Instr.index 130 (.agg #[Z O al,Z O ah,Z O bl,Z O bh]) (Z O 0)).run Try.prog w=.ok (.agg #[Z O al,Z O ah]) w:=fun _=>by kernel_rfl
 have i1:∀ w:World,(Instr.index 130 (.agg #[Z O al,Z O ah,Z O bl,Z O bh]) (Z O 1)).run Try.prog w=.ok (.agg #[Z O bl,Z O bh]) w:=fun _=>by kernel_rfl
 have HG:=Zh hg
 have HGL:=Zh hg.lt
 clear hg
 go_enter Try.func75,Try.ntmps75
 go_wp2
 go_loopw [12] (fun v wr => ∃ k:Nat,k≤2∧v=Z O k∧Hid (1≤k→boundsB al ah 0 x=true)∧Hid (k=2→boundsB bl bh 0 y=true)∧Hid (Below w.heap.size w wr)∧Hid (Blk wr w.heap.size 114 #[Z O kind,Zs s,.bool bo,Zl (some ⟨g,0,none⟩) 2 2,.func fn #[] #[]])) (fun v _=>2-(intOf v).toNat)
 case atStart=>exact⟨0,by omega,rfl,Zh (fun h=>by omega),Zh (fun h=>by omega),HB0,HK0⟩
 case round =>
  obtain⟨k,hk,rfl,HA,HBB,HB,HK⟩:=hrel
  have y3:=HK.out.at 3 (Zl (some ⟨g,0,none⟩) 2 2) rfl
  have hzr:w.heap.size<wr.heap.size:=HK.out.lt
  have hcase:k=0∨k=1∨k=2:=by omega
  rcases hcase with rfl | rfl | rfl
  ·have k6:=(Blk.new wr 32 #[Z O al,Z O ah]).at 0 (Z O al) rfl
   have k7:=(Blk.new wr 32 #[Z O al,Z O ah]).at 1 (Z O ah) rfl
   have HK3:=Zh (HK.out.alloc (.cells #[Z O al,Z O ah] 32))
   have k3:=HK3.out.at 3 (Zl (some ⟨g,0,none⟩) 2 2) rfl
   have kg:=((Below.blk HB.out HG.out HGL.out).alloc (.cells #[Z O al,Z O ah] 32)).at 0 (Z O x) rfl
   have HB1:=Zh (HB.out.alloc HB.out.size (.cells #[Z O al,Z O ah] 32))
   obtain⟨b,hb⟩:∃ b,b=boundsB al ah 0 x:=⟨_,rfl⟩
   have HV:=Zh hb.symm
   go_upto_region 7 with(fail)
   generalize World.alloc _ _=wv at k6 k7 k3 kg HB1 HK3 ⊢
   have c6:=Zg k6
   have c7:=Zg k7
   have c3:=Zg k3
   have cg:=Zg kg
   have cA:∀ d os,Calls Try.prog 81 #[.agg #[Z O al,Z O ah],Z O 0,Z O x] (Go.Sort.grow (redrawn wv d) os) fun e w''=>e=.returned (.bool b)∧∃ p:Regrown,w''=Go.Sort.grow (redrawn wv p.d) p.os:=regrown_calls (fun w=>by rw [hb];exact(areBounds_calls al ah 0 x w).mono fun e w' he=>⟨he.1,by rw [he.2];exact(Below.refl _ _).alloc (Nat.le_refl _) _⟩)
   clear k6 k7 k3 kg hb
   refine wp_region_quiet_below (by kernel_rfl) (by kernel_rfl) ?_
   repeat(go_big_quiet_step (with_reducible exact cA _ _))
   refine wpQuiet_nil ?_
   intro w8 hw'
   have hb8:Below wv.heap.size wv w8:=by obtain⟨⟨dq,osq⟩,hw''⟩:=hw';rw [hw''];exact Zk wv dq osq
   have HB8:=Zh (HB1.out.trans (hb8.mono HB1.out.size))
   have HK8:=Zh (HK3.out.below hb8)
   clear hw' hb8 c6 c7 c3 cg cA
   cases b with
   | true =>
     go_wp2
     go_roundw
     case rel=>exact⟨1,by omega,rfl,Zh (fun _=>HV.out),Zh (fun h=>by omega),HB8,HK8⟩
     case measure=>simp [intOf]
   | false =>
     go_wp2
     go_ret
     exact⟨by rw [HV.out];simp,HB8.out⟩
  ·have k6:=(Blk.new wr 32 #[Z O bl,Z O bh]).at 0 (Z O bl) rfl
   have k7:=(Blk.new wr 32 #[Z O bl,Z O bh]).at 1 (Z O bh) rfl
   have HK3:=Zh (HK.out.alloc (.cells #[Z O bl,Z O bh] 32))
   have k3:=HK3.out.at 3 (Zl (some ⟨g,0,none⟩) 2 2) rfl
   have kg:=((Below.blk HB.out HG.out HGL.out).alloc (.cells #[Z O bl,Z O bh] 32)).at 1 (Z O y) rfl
   have HB1:=Zh (HB.out.alloc HB.out.size (.cells #[Z O bl,Z O bh] 32))
   obtain⟨b,hb⟩:∃ b,b=boundsB bl bh 0 y:=⟨_,rfl⟩
   have HV:=Zh hb.symm
   go_upto_region 7 with(fail)
   generalize World.alloc _ _=wv at k6 k7 k3 kg HB1 HK3 ⊢
   have c6:=Zg k6
   have c7:=Zg k7
   have c3:=Zg k3
   have cg:=Zg kg
   have cA:∀ d os,Calls Try.prog 81 #[.agg #[Z O bl,Z O bh],Z O 0,Z O y] (Go.Sort.grow (redrawn wv d) os) fun e w''=>e=.returned (.bool b)∧∃ p:Regrown,w''=Go.Sort.grow (redrawn wv p.d) p.os:=regrown_calls (fun w=>by rw [hb];exact(areBounds_calls bl bh 0 y w).mono fun e w' he=>⟨he.1,by rw [he.2];exact(Below.refl _ _).alloc (Nat.le_refl _) _⟩)
   clear k6 k7 k3 kg hb
   refine wp_region_quiet_below (by kernel_rfl) (by kernel_rfl) ?_
   repeat(go_big_quiet_step (with_reducible exact cA _ _))
   refine wpQuiet_nil ?_
   intro w8 hw'
   have hb8:Below wv.heap.size wv w8:=by obtain⟨⟨dq,osq⟩,hw''⟩:=hw';rw [hw''];exact Zk wv dq osq
   have HB8:=Zh (HB1.out.trans (hb8.mono HB1.out.size))
   have HK8:=Zh (HK3.out.below hb8)
   clear hw' hb8 c6 c7 c3 cg cA
   cases b with
   | true =>
     go_wp2
     go_roundw
     case rel=>exact⟨2,by omega,rfl,Zh (fun _=>HA.out (by first | trivial | omega)),Zh (fun h=>HV.out),HB8,HK8⟩
     case measure=>simp [intOf]
   | false =>
     go_wp2
     go_ret
     exact⟨by rw [HA.out (by first | trivial | omega),HV.out];rfl,HB8.out⟩
  ·go_wp2
   go_ret
   exact⟨by rw [HA.out (by first | trivial | omega),HBB.out (by first | trivial | rfl)];rfl,HB.out⟩
theorem zB_ranged {lo hi lim:Int}(h:lim<0):zB lo hi=rangedB lo hi lim:=by unfold zB rangedB;rw [if_pos h]
theorem boundsB_ranged {lo hi lim:Int}(h:0≤lim):boundsB lo hi 0 lim=rangedB lo hi lim:=by unfold rangedB;rw [if_neg (by omega)]
theorem hasAny_all {kind day al ah bl bh:Int}{code other:Code}(k:Nat)(hk:k<8)(hkd:kind=((k+1:Nat):Int))(s:ByteArray)(bo:Bool)(F:Fn)(ma:Option Addr)(w:World)
  (hm:∀ g,ma=some ⟨g,0,none⟩→Blk w g 3 (intCells (fMost (k+1))).toArray) (hma:fMost (k+1) = []∨∃ g,ma=some ⟨g,0,none⟩) :
  Calls Try.prog 75 #[.agg #[Z O kind,Zs s,.bool bo,Zl ma (fMost (k+1)).length (fMost (k+1)).length,.func F #[] #[]],.agg #[Z O kind,Z O day,Zs code,Zs other,Z O al,Z O ah,Z O bl,Z O bh]] w fun e w'=>e=.returned (.bool (rangedB al ah (limA kind) && rangedB bl bh (limB kind)))∧Below w.heap.size w w':=by
 match k,hk with
 | 0,_ =>
   have e:kind=1:=hkd
   subst e
   obtain⟨g,rfl⟩:∃ g,ma=some ⟨g,0,none⟩:=hma.resolve_left (by decide)
   have h:=hasAny_2 1 1 day s bo F code other al ah bl bh 100000000 100000000 g w (hm g rfl)
   rw [(boundsB_ranged (lim:=100000000) (by omega)),(boundsB_ranged (lim:=100000000) (by omega))]at h
   exact h
 | 1,_ =>
   have e:kind=2:=hkd
   subst e
   obtain⟨g,rfl⟩:∃ g,ma=some ⟨g,0,none⟩:=hma.resolve_left (by decide)
   have h:=hasAny_1 2 2 day s bo F code other al ah bl bh 1000 g w (hm g rfl)
   rw [(boundsB_ranged (lim:=1000) (by omega)),(zB_ranged (lim:=-1) (by omega))]at h
   exact h
 | 2,_ =>
   have e:kind=3:=hkd
   subst e
   obtain⟨g,rfl⟩:∃ g,ma=some ⟨g,0,none⟩:=hma.resolve_left (by decide)
   have h:=hasAny_2 3 3 day s bo F code other al ah bl bh 1000 3000 g w (hm g rfl)
   rw [(boundsB_ranged (lim:=1000) (by omega)),(boundsB_ranged (lim:=3000) (by omega))]at h
   exact h
 | 3,_ =>
   have e:kind=4:=hkd
   subst e
   obtain⟨g,rfl⟩:∃ g,ma=some ⟨g,0,none⟩:=hma.resolve_left (by decide)
   have h:=hasAny_1 4 4 day s bo F code other al ah bl bh 100000000 g w (hm g rfl)
   rw [(boundsB_ranged (lim:=100000000) (by omega)),(zB_ranged (lim:=-1) (by omega))]at h
   exact h
 | 4,_ =>
   have e:kind=5:=hkd
   subst e
   obtain⟨g,rfl⟩:∃ g,ma=some ⟨g,0,none⟩:=hma.resolve_left (by decide)
   have h:=hasAny_1 5 5 day s bo F code other al ah bl bh 1000 g w (hm g rfl)
   rw [(boundsB_ranged (lim:=1000) (by omega)),(zB_ranged (lim:=-1) (by omega))]at h
   exact h
 | 5,_ =>
   have e:kind=6:=hkd
   subst e
   have h:=hasAny_0 6 6 day s bo F code other al ah bl bh ma w
   rw [(zB_ranged (lim:=-1) (by omega)),(zB_ranged (lim:=-1) (by omega))]at h
   exact h
 | 6,_ =>
   have e:kind=7:=hkd
   subst e
   obtain⟨g,rfl⟩:∃ g,ma=some ⟨g,0,none⟩:=hma.resolve_left (by decide)
   have h:=hasAny_1 7 7 day s bo F code other al ah bl bh 100000000 g w (hm g rfl)
   rw [(boundsB_ranged (lim:=100000000) (by omega)),(zB_ranged (lim:=-1) (by omega))]at h
   exact h
 | 7,_ =>
   have e:kind=8:=hkd
   subst e
   have h:=hasAny_0 8 8 day s bo F code other al ah bl bh ma w
   rw [(zB_ranged (lim:=-1) (by omega)),(zB_ranged (lim:=-1) (by omega))]at h
   exact h
theorem checkDeed_none (kind day ear:Int)(code other:Code)(al ah bl bh:Int)(w:World)(hno:¬ (1≤kind∧kind≤8)) :
  Calls Try.prog 54 #[.agg #[Z O kind,Z O day,Zs code,Zs other,Z O al,Z O ah,Z O bl,Z O bh],Z O ear] w fun e w'=>e=.returned (Z O (errDeed (⟨kind,day,code,other,⟨al,ah⟩,⟨bl,bh⟩⟩:Deed Code) ear))∧Below w.heap.size w w':=by
 have HNO:=Zh hno
 have HE:=Zh (p:=errDeed (⟨kind,day,code,other,⟨al,ah⟩,⟨bl,bh⟩⟩:Deed Code) ear=1) (by unfold errDeed;rw [if_pos (by simp only;omega)])
 have HB0:=Zh ((Below.refl w.heap.size w).alloc (Nat.le_refl _) (.cells #[Z O kind,Z O day,Zs code,Zs other,Z O al,Z O ah,Z O bl,Z O bh] 55))
 have HK0:=Zh (Blk.new w 55 #[Z O kind,Z O day,Zs code,Zs other,Z O al,Z O ah,Z O bl,Z O bh])
 clear hno
 go_enter Try.func54,Try.ntmps54
 go_wp2_with (first
  | (go_at_call 63;refine(formOf_no kind HNO.out).mono ?_;rintro e w1 ⟨rfl,hb1⟩;have HB1:=Zh (HB0.out.trans (hb1.mono HB0.out.size));have HK1:=Zh (HK0.out.below hb1);have q0:=HK1.out.at 0 (Z O kind) rfl;have q1:=HK1.out.at 1 (Z O day) rfl;have q2:=HK1.out.at 2 (Zs code) rfl;have q3:=HK1.out.at 3 (Zs other) rfl;have q4:=HK1.out.at 4 (Z O al) rfl;have q5:=HK1.out.at 5 (Z O ah) rfl;have q6:=HK1.out.at 6 (Z O bl) rfl;have q7:=HK1.out.at 7 (Z O bh) rfl;have hz1:w.heap.size<w1.heap.size:=HK1.out.lt;clear hb1)
  | (go_at_call 47;refine(within_calls _ _ _ _).mono ?_;rintro e w' ⟨rfl,rfl⟩))
 go_ret
 exact⟨by rw [HE.out];rfl,HB1.out.alloc HB1.out.size _⟩
theorem checkDeed_any (kind day ear:Int)(code other:Code)(al ah bl bh:Int)(w:World)(hs1:code.size≤9223372036854775807)(hs2:other.size≤9223372036854775807) :
  Calls Try.prog 54 #[.agg #[Z O kind,Z O day,Zs code,Zs other,Z O al,Z O ah,Z O bl,Z O bh],Z O ear] w fun e w'=>e=.returned (Z O (errDeed (⟨kind,day,code,other,⟨al,ah⟩,⟨bl,bh⟩⟩:Deed Code) ear))∧Below w.heap.size w w':=by
 rcases Decidable.em (¬ (1≤kind∧kind≤8))with hkk | hkk
 ·exact checkDeed_none kind day ear code other al ah bl bh w hkk
 have hkk:=Decidable.not_not.1 hkk
 obtain⟨k,hk,hkd⟩:∃ k:Nat,k<8∧kind=((k+1:Nat):Int):=⟨(kind-1).toNat,by omega,by omega⟩
 obtain⟨s,hs⟩:∃ s:ByteArray,s=⟨(fWord (k+1)).toArray⟩:=⟨_,rfl⟩
 obtain⟨b,hb⟩:∃ b,b=fOther (k+1):=⟨_,rfl⟩
 obtain⟨mn,hmn⟩:∃ n,n=(fMost (k+1)).length:=⟨_,rfl⟩
 obtain⟨F,hF⟩:∃ n,n=fDo (k+1):=⟨_,rfl⟩
 obtain⟨R,hR⟩:∃ R,R=(rangedB al ah (limA kind) && rangedB bl bh (limB kind)):=⟨_,rfl⟩
 have hbt:b=twoK kind:=by rw [hb,hkd];exact fOther_two hk
 have HHB:=Zh (fun(ma:Option Addr) (w:World) (hm:∀ g,ma=some ⟨g,0,none⟩→Blk w g 3 (intCells (fMost (k+1))).toArray) (hma:fMost (k+1) = []∨∃ g,ma=some ⟨g,0,none⟩)=>hasAny_all (kind:=kind) (day:=day) (al:=al) (ah:=ah) (bl:=bl) (bh:=bh) (code:=code) (other:=other) k hk hkd s b (.func F) ma w hm hma)
 rw [← hmn,← hR]at HHB
 have HKK:=Zh hkk;have HRR:=Zh hR;have HBT:=Zh hbt
 have HKD:=Zh hkd;have HSS:=Zh hs;have HBB:=Zh hb;have HMN:=Zh hmn;have HFF:=Zh hF;have HS1:=Zh hs1;have HS2:=Zh hs2
 have HB0:=Zh ((Below.refl w.heap.size w).alloc (Nat.le_refl _) (.cells #[Z O kind,Z O day,Zs code,Zs other,Z O al,Z O ah,Z O bl,Z O bh] 55))
 have HK0:=Zh (Blk.new w 55 #[Z O kind,Z O day,Zs code,Zs other,Z O al,Z O ah,Z O bl,Z O bh])
 clear hkk hkd hs hb hmn hF hs1 hs2 hR hbt
 cases e1:inB day 0 2000 with
 | false =>
   have HE:=Zh (show errDeed (⟨kind,day,code,other,⟨al,ah⟩,⟨bl,bh⟩⟩:Deed Code) ear=1 from by
    have hkk:=HKK.out
    unfold errDeed
    rw [if_pos (by simp only [e1,or_true])])
   go_enter Try.func54,Try.ntmps54
   go_wp2_with (first
    | (go_at_call 63;refine(formOf_yes k hk kind HKD.out).mono ?_;rintro e w1 ⟨ma,rfl,hb1,hm1,hma⟩;rw [← HKD.out,← HSS.out,← HBB.out,← HMN.out,← HFF.out];have HB1:=Zh (HB0.out.trans (hb1.mono HB0.out.size));have HK1:=Zh (HK0.out.below hb1);have HM1:=Zh hm1;have HMA:=Zh hma;have q0:=HK1.out.at 0 (Z O kind) rfl;have q1:=HK1.out.at 1 (Z O day) rfl;have q2:=HK1.out.at 2 (Zs code) rfl;have q3:=HK1.out.at 3 (Zs other) rfl;have q4:=HK1.out.at 4 (Z O al) rfl;have q5:=HK1.out.at 5 (Z O ah) rfl;have q6:=HK1.out.at 6 (Z O bl) rfl;have q7:=HK1.out.at 7 (Z O bh) rfl;have hz1:w.heap.size<w1.heap.size:=HK1.out.lt;clear hb1 hm1 hma)
    | (go_at_call 47;refine(within_calls _ _ _ _).mono ?_;rintro e w' ⟨rfl,rfl⟩)
    | (go_at_call 74;((with_reducible refine(isCode_calls code _ HS1.out).mono ?_);rintro e w' ⟨rfl,rfl⟩))
    | (go_at_call 74;((with_reducible refine(isCode_calls other _ HS2.out).mono ?_);rintro e w' ⟨rfl,rfl⟩))
    | (go_at_call 75;go_must (refine(HHB.out ma _ (fun g hg=>(HM1.out g hg).alloc _) HMA.out).mono ?_);rintro e w2 ⟨rfl,hb2⟩;have HB2:=Zh ((HB1.out.alloc HB1.out.size (.cells #[Z O kind,Zs s,.bool b,Zl ma mn mn,.func (.func F) #[] #[]] 114)).trans (hb2.mono (HB1.out.alloc HB1.out.size _).size));clear hb2))
   go_ret
   exact⟨by rw [HE.out];rfl,HB1.out.alloc HB1.out.size _⟩
 | true =>
   by_cases hday:day<ear
   ·have e3:decide (day<ear)=true:=by simpa using hday
    have HE:=Zh (show errDeed (⟨kind,day,code,other,⟨al,ah⟩,⟨bl,bh⟩⟩:Deed Code) ear=7 from by
     have hkk:=HKK.out
     unfold errDeed
     rw [if_neg (by simp only [e1,Bool.true_eq_false,or_false];omega)]
     rw [if_pos (by simpa using hday)])
    go_enter Try.func54,Try.ntmps54
    go_wp2_with (first
     | (go_at_call 63;refine(formOf_yes k hk kind HKD.out).mono ?_;rintro e w1 ⟨ma,rfl,hb1,hm1,hma⟩;rw [← HKD.out,← HSS.out,← HBB.out,← HMN.out,← HFF.out];have HB1:=Zh (HB0.out.trans (hb1.mono HB0.out.size));have HK1:=Zh (HK0.out.below hb1);have HM1:=Zh hm1;have HMA:=Zh hma;have q0:=HK1.out.at 0 (Z O kind) rfl;have q1:=HK1.out.at 1 (Z O day) rfl;have q2:=HK1.out.at 2 (Zs code) rfl;have q3:=HK1.out.at 3 (Zs other) rfl;have q4:=HK1.out.at 4 (Z O al) rfl;have q5:=HK1.out.at 5 (Z O ah) rfl;have q6:=HK1.out.at 6 (Z O bl) rfl;have q7:=HK1.out.at 7 (Z O bh) rfl;have hz1:w.heap.size<w1.heap.size:=HK1.out.lt;clear hb1 hm1 hma)
     | (go_at_call 47;refine(within_calls _ _ _ _).mono ?_;rintro e w' ⟨rfl,rfl⟩)
     | (go_at_call 74;((with_reducible refine(isCode_calls code _ HS1.out).mono ?_);rintro e w' ⟨rfl,rfl⟩))
     | (go_at_call 74;((with_reducible refine(isCode_calls other _ HS2.out).mono ?_);rintro e w' ⟨rfl,rfl⟩))
     | (go_at_call 75;go_must (refine(HHB.out ma _ (fun g hg=>(HM1.out g hg).alloc _) HMA.out).mono ?_);rintro e w2 ⟨rfl,hb2⟩;have HB2:=Zh ((HB1.out.alloc HB1.out.size (.cells #[Z O kind,Zs s,.bool b,Zl ma mn mn,.func (.func F) #[] #[]] 114)).trans (hb2.mono (HB1.out.alloc HB1.out.size _).size));clear hb2))
    go_ret
    exact⟨by rw [HE.out];rfl,HB1.out.alloc HB1.out.size _⟩
   have e3:decide (day<ear)=false:=by simpa using hday
   cases e2:codeB code.data.toList with
   | false =>
     have HE:=Zh (show errDeed (⟨kind,day,code,other,⟨al,ah⟩,⟨bl,bh⟩⟩:Deed Code) ear=4 from by
      have hkk:=HKK.out
      unfold errDeed
      rw [if_neg (by simp only [e1,Bool.true_eq_false,or_false];omega)]
      rw [if_neg (by simpa using hday)]
      rw [if_pos (.inl (by simpa using e2))])
     go_enter Try.func54,Try.ntmps54
     go_wp2_with (first
      | (go_at_call 63;refine(formOf_yes k hk kind HKD.out).mono ?_;rintro e w1 ⟨ma,rfl,hb1,hm1,hma⟩;rw [← HKD.out,← HSS.out,← HBB.out,← HMN.out,← HFF.out];have HB1:=Zh (HB0.out.trans (hb1.mono HB0.out.size));have HK1:=Zh (HK0.out.below hb1);have HM1:=Zh hm1;have HMA:=Zh hma;have q0:=HK1.out.at 0 (Z O kind) rfl;have q1:=HK1.out.at 1 (Z O day) rfl;have q2:=HK1.out.at 2 (Zs code) rfl;have q3:=HK1.out.at 3 (Zs other) rfl;have q4:=HK1.out.at 4 (Z O al) rfl;have q5:=HK1.out.at 5 (Z O ah) rfl;have q6:=HK1.out.at 6 (Z O bl) rfl;have q7:=HK1.out.at 7 (Z O bh) rfl;have hz1:w.heap.size<w1.heap.size:=HK1.out.lt;clear hb1 hm1 hma)
      | (go_at_call 47;refine(within_calls _ _ _ _).mono ?_;rintro e w' ⟨rfl,rfl⟩)
      | (go_at_call 74;((with_reducible refine(isCode_calls code _ HS1.out).mono ?_);rintro e w' ⟨rfl,rfl⟩))
      | (go_at_call 74;((with_reducible refine(isCode_calls other _ HS2.out).mono ?_);rintro e w' ⟨rfl,rfl⟩))
      | (go_at_call 75;go_must (refine(HHB.out ma _ (fun g hg=>(HM1.out g hg).alloc _) HMA.out).mono ?_);rintro e w2 ⟨rfl,hb2⟩;have HB2:=Zh ((HB1.out.alloc HB1.out.size (.cells #[Z O kind,Zs s,.bool b,Zl ma mn mn,.func (.func F) #[] #[]] 114)).trans (hb2.mono (HB1.out.alloc HB1.out.size _).size));clear hb2))
     go_ret
     exact⟨by rw [HE.out];rfl,HB1.out.alloc HB1.out.size _⟩
   | true =>
     cases htw:twoK kind with
     | true =>
       obtain rfl:b=true:=HBT.out.trans htw
       cases e4:codeB other.data.toList with
       | false =>
         have HE:=Zh (show errDeed (⟨kind,day,code,other,⟨al,ah⟩,⟨bl,bh⟩⟩:Deed Code) ear=4 from by
          have hkk:=HKK.out
          unfold errDeed
          rw [if_neg (by simp only [e1,Bool.true_eq_false,or_false];omega)]
          rw [if_neg (by simpa using hday)]
          rw [if_pos (.inr ⟨by simpa using htw,by simpa using e4⟩)])
         go_enter Try.func54,Try.ntmps54
         go_wp2_with (first
          | (go_at_call 63;refine(formOf_yes k hk kind HKD.out).mono ?_;rintro e w1 ⟨ma,rfl,hb1,hm1,hma⟩;rw [← HKD.out,← HSS.out,← HBB.out,← HMN.out,← HFF.out];have HB1:=Zh (HB0.out.trans (hb1.mono HB0.out.size));have HK1:=Zh (HK0.out.below hb1);have HM1:=Zh hm1;have HMA:=Zh hma;have q0:=HK1.out.at 0 (Z O kind) rfl;have q1:=HK1.out.at 1 (Z O day) rfl;have q2:=HK1.out.at 2 (Zs code) rfl;have q3:=HK1.out.at 3 (Zs other) rfl;have q4:=HK1.out.at 4 (Z O al) rfl;have q5:=HK1.out.at 5 (Z O ah) rfl;have q6:=HK1.out.at 6 (Z O bl) rfl;have q7:=HK1.out.at 7 (Z O bh) rfl;have hz1:w.heap.size<w1.heap.size:=HK1.out.lt;clear hb1 hm1 hma)
          | (go_at_call 47;refine(within_calls _ _ _ _).mono ?_;rintro e w' ⟨rfl,rfl⟩)
          | (go_at_call 74;((with_reducible refine(isCode_calls code _ HS1.out).mono ?_);rintro e w' ⟨rfl,rfl⟩))
          | (go_at_call 74;((with_reducible refine(isCode_calls other _ HS2.out).mono ?_);rintro e w' ⟨rfl,rfl⟩))
          | (go_at_call 75;go_must (refine(HHB.out ma _ (fun g hg=>(HM1.out g hg).alloc _) HMA.out).mono ?_);rintro e w2 ⟨rfl,hb2⟩;have HB2:=Zh ((HB1.out.alloc HB1.out.size (.cells #[Z O kind,Zs s,.bool true,Zl ma mn mn,.func (.func F) #[] #[]] 114)).trans (hb2.mono (HB1.out.alloc HB1.out.size _).size));clear hb2))
         go_ret
         exact⟨by rw [HE.out];rfl,HB1.out.alloc HB1.out.size _⟩
       | true =>
         cases R with
         | false =>
           have hRf:=HRR.out.symm
           have hR2:rangedB al ah (limA kind)=false∨rangedB bl bh (limB kind)=false:=by
            cases h1:rangedB al ah (limA kind)with
            | false=>exact .inl rfl
            | true=>rw [h1]at hRf;exact .inr (by simpa using hRf)
           have HR2:=Zh hR2
           clear hRf hR2
           have HE:=Zh (show errDeed (⟨kind,day,code,other,⟨al,ah⟩,⟨bl,bh⟩⟩:Deed Code) ear=1 from by
            have hkk:=HKK.out
            unfold errDeed
            rw [if_neg (by simp only [e1,Bool.true_eq_false,or_false];omega)]
            rw [if_neg (by simpa using hday)]
            rw [if_neg (by simp only [e2,htw,Bool.true_eq_false,false_or];simp [e4])]
            rw [if_pos (by rcases HR2.out with h | h;exact .inl h;exact .inr (.inl h))])
           go_enter Try.func54,Try.ntmps54
           go_wp2_with (first
            | (go_at_call 63;refine(formOf_yes k hk kind HKD.out).mono ?_;rintro e w1 ⟨ma,rfl,hb1,hm1,hma⟩;rw [← HKD.out,← HSS.out,← HBB.out,← HMN.out,← HFF.out];have HB1:=Zh (HB0.out.trans (hb1.mono HB0.out.size));have HK1:=Zh (HK0.out.below hb1);have HM1:=Zh hm1;have HMA:=Zh hma;have q0:=HK1.out.at 0 (Z O kind) rfl;have q1:=HK1.out.at 1 (Z O day) rfl;have q2:=HK1.out.at 2 (Zs code) rfl;have q3:=HK1.out.at 3 (Zs other) rfl;have q4:=HK1.out.at 4 (Z O al) rfl;have q5:=HK1.out.at 5 (Z O ah) rfl;have q6:=HK1.out.at 6 (Z O bl) rfl;have q7:=HK1.out.at 7 (Z O bh) rfl;have hz1:w.heap.size<w1.heap.size:=HK1.out.lt;clear hb1 hm1 hma)
            | (go_at_call 47;refine(within_calls _ _ _ _).mono ?_;rintro e w' ⟨rfl,rfl⟩)
            | (go_at_call 74;((with_reducible refine(isCode_calls code _ HS1.out).mono ?_);rintro e w' ⟨rfl,rfl⟩))
            | (go_at_call 74;((with_reducible refine(isCode_calls other _ HS2.out).mono ?_);rintro e w' ⟨rfl,rfl⟩))
            | (go_at_call 75;go_must (refine(HHB.out ma _ (fun g hg=>(HM1.out g hg).alloc _) HMA.out).mono ?_);rintro e w2 ⟨rfl,hb2⟩;have HB2:=Zh ((HB1.out.alloc HB1.out.size (.cells #[Z O kind,Zs s,.bool true,Zl ma mn mn,.func (.func F) #[] #[]] 114)).trans (hb2.mono (HB1.out.alloc HB1.out.size _).size));clear hb2))
           go_ret
           exact⟨by rw [HE.out];rfl,HB2.out⟩
         | true =>
           have hRt:=HRR.out.symm
           have hR2:rangedB al ah (limA kind)=true∧rangedB bl bh (limB kind)=true:=by simpa [Bool.and_eq_true] using hRt
           have HR2:=Zh hR2
           clear hRt hR2
           have HE:=Zh (show errDeed (⟨kind,day,code,other,⟨al,ah⟩,⟨bl,bh⟩⟩:Deed Code) ear=0 from by
            have hkk:=HKK.out
            unfold errDeed
            rw [if_neg (by simp only [e1,Bool.true_eq_false,or_false];omega)]
            rw [if_neg (by simpa using hday)]
            rw [if_neg (by simp only [e2,htw,Bool.true_eq_false,false_or];simp [e4])]
            rw [if_neg (by simp only [HR2.out.1,HR2.out.2,htw];simp)])
           go_enter Try.func54,Try.ntmps54
           go_wp2_with (first
            | (go_at_call 63;refine(formOf_yes k hk kind HKD.out).mono ?_;rintro e w1 ⟨ma,rfl,hb1,hm1,hma⟩;rw [← HKD.out,← HSS.out,← HBB.out,← HMN.out,← HFF.out];have HB1:=Zh (HB0.out.trans (hb1.mono HB0.out.size));have HK1:=Zh (HK0.out.below hb1);have HM1:=Zh hm1;have HMA:=Zh hma;have q0:=HK1.out.at 0 (Z O kind) rfl;have q1:=HK1.out.at 1 (Z O day) rfl;have q2:=HK1.out.at 2 (Zs code) rfl;have q3:=HK1.out.at 3 (Zs other) rfl;have q4:=HK1.out.at 4 (Z O al) rfl;have q5:=HK1.out.at 5 (Z O ah) rfl;have q6:=HK1.out.at 6 (Z O bl) rfl;have q7:=HK1.out.at 7 (Z O bh) rfl;have hz1:w.heap.size<w1.heap.size:=HK1.out.lt;clear hb1 hm1 hma)
            | (go_at_call 47;refine(within_calls _ _ _ _).mono ?_;rintro e w' ⟨rfl,rfl⟩)
            | (go_at_call 74;((with_reducible refine(isCode_calls code _ HS1.out).mono ?_);rintro e w' ⟨rfl,rfl⟩))
            | (go_at_call 74;((with_reducible refine(isCode_calls other _ HS2.out).mono ?_);rintro e w' ⟨rfl,rfl⟩))
            | (go_at_call 75;go_must (refine(HHB.out ma _ (fun g hg=>(HM1.out g hg).alloc _) HMA.out).mono ?_);rintro e w2 ⟨rfl,hb2⟩;have HB2:=Zh ((HB1.out.alloc HB1.out.size (.cells #[Z O kind,Zs s,.bool true,Zl ma mn mn,.func (.func F) #[] #[]] 114)).trans (hb2.mono (HB1.out.alloc HB1.out.size _).size));clear hb2))
           go_ret
           exact⟨by rw [HE.out];rfl,HB2.out⟩
     | false =>
       obtain rfl:b=false:=HBT.out.trans htw
       cases hno:noOther other with
       | false =>
         have e4:other.toList.isEmpty=false:=by rw [← noOther_empty];exact hno
         have HE:=Zh (show errDeed (⟨kind,day,code,other,⟨al,ah⟩,⟨bl,bh⟩⟩:Deed Code) ear=1 from by
          have hkk:=HKK.out
          unfold errDeed
          rw [if_neg (by simp only [e1,Bool.true_eq_false,or_false];omega)]
          rw [if_neg (by simpa using hday)]
          rw [if_neg (by simp only [e2,htw,Bool.true_eq_false,false_or];simp)]
          rw [if_pos (.inr (.inr ⟨by simpa using htw,by simpa using hno⟩))])
         go_enter Try.func54,Try.ntmps54
         go_wp2_with (first
          | (go_at_call 63;refine(formOf_yes k hk kind HKD.out).mono ?_;rintro e w1 ⟨ma,rfl,hb1,hm1,hma⟩;rw [← HKD.out,← HSS.out,← HBB.out,← HMN.out,← HFF.out];have HB1:=Zh (HB0.out.trans (hb1.mono HB0.out.size));have HK1:=Zh (HK0.out.below hb1);have HM1:=Zh hm1;have HMA:=Zh hma;have q0:=HK1.out.at 0 (Z O kind) rfl;have q1:=HK1.out.at 1 (Z O day) rfl;have q2:=HK1.out.at 2 (Zs code) rfl;have q3:=HK1.out.at 3 (Zs other) rfl;have q4:=HK1.out.at 4 (Z O al) rfl;have q5:=HK1.out.at 5 (Z O ah) rfl;have q6:=HK1.out.at 6 (Z O bl) rfl;have q7:=HK1.out.at 7 (Z O bh) rfl;have hz1:w.heap.size<w1.heap.size:=HK1.out.lt;clear hb1 hm1 hma)
          | (go_at_call 47;refine(within_calls _ _ _ _).mono ?_;rintro e w' ⟨rfl,rfl⟩)
          | (go_at_call 74;((with_reducible refine(isCode_calls code _ HS1.out).mono ?_);rintro e w' ⟨rfl,rfl⟩))
          | (go_at_call 74;((with_reducible refine(isCode_calls other _ HS2.out).mono ?_);rintro e w' ⟨rfl,rfl⟩))
          | (go_at_call 75;go_must (refine(HHB.out ma _ (fun g hg=>(HM1.out g hg).alloc _) HMA.out).mono ?_);rintro e w2 ⟨rfl,hb2⟩;have HB2:=Zh ((HB1.out.alloc HB1.out.size (.cells #[Z O kind,Zs s,.bool false,Zl ma mn mn,.func (.func F) #[] #[]] 114)).trans (hb2.mono (HB1.out.alloc HB1.out.size _).size));clear hb2))
         go_ret
         exact⟨by rw [HE.out];rfl,HB1.out.alloc HB1.out.size _⟩
       | true =>
         have e4:other.toList.isEmpty=true:=by rw [← noOther_empty];exact hno
         cases R with
         | false =>
           have hRf:=HRR.out.symm
           have hR2:rangedB al ah (limA kind)=false∨rangedB bl bh (limB kind)=false:=by
            cases h1:rangedB al ah (limA kind)with
            | false=>exact .inl rfl
            | true=>rw [h1]at hRf;exact .inr (by simpa using hRf)
           have HR2:=Zh hR2
           clear hRf hR2
           have HE:=Zh (show errDeed (⟨kind,day,code,other,⟨al,ah⟩,⟨bl,bh⟩⟩:Deed Code) ear=1 from by
            have hkk:=HKK.out
            unfold errDeed
            rw [if_neg (by simp only [e1,Bool.true_eq_false,or_false];omega)]
            rw [if_neg (by simpa using hday)]
            rw [if_neg (by simp only [e2,htw,Bool.true_eq_false,false_or];simp)]
            rw [if_pos (by rcases HR2.out with h | h;exact .inl h;exact .inr (.inl h))])
           go_enter Try.func54,Try.ntmps54
           go_wp2_with (first
            | (go_at_call 63;refine(formOf_yes k hk kind HKD.out).mono ?_;rintro e w1 ⟨ma,rfl,hb1,hm1,hma⟩;rw [← HKD.out,← HSS.out,← HBB.out,← HMN.out,← HFF.out];have HB1:=Zh (HB0.out.trans (hb1.mono HB0.out.size));have HK1:=Zh (HK0.out.below hb1);have HM1:=Zh hm1;have HMA:=Zh hma;have q0:=HK1.out.at 0 (Z O kind) rfl;have q1:=HK1.out.at 1 (Z O day) rfl;have q2:=HK1.out.at 2 (Zs code) rfl;have q3:=HK1.out.at 3 (Zs other) rfl;have q4:=HK1.out.at 4 (Z O al) rfl;have q5:=HK1.out.at 5 (Z O ah) rfl;have q6:=HK1.out.at 6 (Z O bl) rfl;have q7:=HK1.out.at 7 (Z O bh) rfl;have hz1:w.heap.size<w1.heap.size:=HK1.out.lt;clear hb1 hm1 hma)
            | (go_at_call 47;refine(within_calls _ _ _ _).mono ?_;rintro e w' ⟨rfl,rfl⟩)
            | (go_at_call 74;((with_reducible refine(isCode_calls code _ HS1.out).mono ?_);rintro e w' ⟨rfl,rfl⟩))
            | (go_at_call 74;((with_reducible refine(isCode_calls other _ HS2.out).mono ?_);rintro e w' ⟨rfl,rfl⟩))
            | (go_at_call 75;go_must (refine(HHB.out ma _ (fun g hg=>(HM1.out g hg).alloc _) HMA.out).mono ?_);rintro e w2 ⟨rfl,hb2⟩;have HB2:=Zh ((HB1.out.alloc HB1.out.size (.cells #[Z O kind,Zs s,.bool false,Zl ma mn mn,.func (.func F) #[] #[]] 114)).trans (hb2.mono (HB1.out.alloc HB1.out.size _).size));clear hb2))
           go_ret
           exact⟨by rw [HE.out];rfl,HB2.out⟩
         | true =>
           have hRt:=HRR.out.symm
           have hR2:rangedB al ah (limA kind)=true∧rangedB bl bh (limB kind)=true:=by simpa [Bool.and_eq_true] using hRt
           have HR2:=Zh hR2
           clear hRt hR2
           have HE:=Zh (show errDeed (⟨kind,day,code,other,⟨al,ah⟩,⟨bl,bh⟩⟩:Deed Code) ear=0 from by
            have hkk:=HKK.out
            unfold errDeed
            rw [if_neg (by simp only [e1,Bool.true_eq_false,or_false];omega)]
            rw [if_neg (by simpa using hday)]
            rw [if_neg (by simp only [e2,htw,Bool.true_eq_false,false_or];simp)]
            rw [if_neg (by simp only [HR2.out.1,HR2.out.2,htw,hno];simp)])
           go_enter Try.func54,Try.ntmps54
           go_wp2_with (first
            | (go_at_call 63;refine(formOf_yes k hk kind HKD.out).mono ?_;rintro e w1 ⟨ma,rfl,hb1,hm1,hma⟩;rw [← HKD.out,← HSS.out,← HBB.out,← HMN.out,← HFF.out];have HB1:=Zh (HB0.out.trans (hb1.mono HB0.out.size));have HK1:=Zh (HK0.out.below hb1);have HM1:=Zh hm1;have HMA:=Zh hma;have q0:=HK1.out.at 0 (Z O kind) rfl;have q1:=HK1.out.at 1 (Z O day) rfl;have q2:=HK1.out.at 2 (Zs code) rfl;have q3:=HK1.out.at 3 (Zs other) rfl;have q4:=HK1.out.at 4 (Z O al) rfl;have q5:=HK1.out.at 5 (Z O ah) rfl;have q6:=HK1.out.at 6 (Z O bl) rfl;have q7:=HK1.out.at 7 (Z O bh) rfl;have hz1:w.heap.size<w1.heap.size:=HK1.out.lt;clear hb1 hm1 hma)
            | (go_at_call 47;refine(within_calls _ _ _ _).mono ?_;rintro e w' ⟨rfl,rfl⟩)
            | (go_at_call 74;((with_reducible refine(isCode_calls code _ HS1.out).mono ?_);rintro e w' ⟨rfl,rfl⟩))
            | (go_at_call 74;((with_reducible refine(isCode_calls other _ HS2.out).mono ?_);rintro e w' ⟨rfl,rfl⟩))
            | (go_at_call 75;go_must (refine(HHB.out ma _ (fun g hg=>(HM1.out g hg).alloc _) HMA.out).mono ?_);rintro e w2 ⟨rfl,hb2⟩;have HB2:=Zh ((HB1.out.alloc HB1.out.size (.cells #[Z O kind,Zs s,.bool false,Zl ma mn mn,.func (.func F) #[] #[]] 114)).trans (hb2.mono (HB1.out.alloc HB1.out.size _).size));clear hb2))
           go_ret
           exact⟨by rw [HE.out];rfl,HB2.out⟩
theorem checkYard_any (bef aft:Int)(v:Value)(ds:List (Deed Code))(w:World)(h:Held w.heap.size w 8 deedCells v ds)(hsz:∀ d ∈ ds,d.stack.size≤9223372036854775807∧d.other.size≤9223372036854775807) :
  Calls Try.prog 29 #[.agg #[Z O bef,Z O aft,v]] w fun e w'=>e=.returned (Z O (errYard bef aft ds))∧Below w.heap.size w w':=by
 obtain⟨a,c,rfl,hmax,hcs⟩:=h.slice
 have HCS0:=Zh hcs
 have HSZ:=Zh hsz
 clear h hcs hsz
 obtain⟨n,hn⟩:∃ n,n=ds.length:=⟨_,rfl⟩
 rw [← hn]at hmax ⊢
 have HN:=Zh hn
 have HB0:=Zh ((Below.refl w.heap.size w).alloc (Nat.le_refl _) (.cells #[Z O bef,Z O aft,Zl a n c] 24))
 clear hn
 have hmx:n≤140737488355328:=hmax
 cases e1:inB bef 0 400 with
 | false =>
   have HE:=Zh (p:=errYard bef aft ds=1) (by unfold errYard;rw [if_pos (.inl e1)])
   go_enter Try.func29,Try.ntmps29
   go_wp2_with (go_at_call 53;refine(isRest_calls _ _).mono ?_;rintro e w' ⟨rfl,rfl⟩)
   go_ret
   exact⟨by rw [HE.out];rfl,HB0.out⟩
 | true =>
 cases e2:inB aft 0 400 with
 | false =>
   have HE:=Zh (p:=errYard bef aft ds=1) (by unfold errYard;rw [if_pos (.inr e2)])
   go_enter Try.func29,Try.ntmps29
   go_wp2_with (go_at_call 53;refine(isRest_calls _ _).mono ?_;rintro e w' ⟨rfl,rfl⟩)
   go_ret
   exact⟨by rw [HE.out];rfl,HB0.out⟩
 | true =>
 by_cases h40:40<n
 ·have HE:=Zh (p:=errYard bef aft ds=2) (by unfold errYard;rw [if_neg (by simp [e1,e2]),if_pos (by rw [← HN.out];exact h40)])
  have d3:decide ((40:Int)<(n:Int))=true:=by simp;omega
  have d4:(40:Int)<(n:Int):=by omega
  go_enter Try.func29,Try.ntmps29
  go_wp2_with (go_at_call 53;refine(isRest_calls _ _).mono ?_;rintro e w' ⟨rfl,rfl⟩)
  go_ret
  exact⟨by rw [HE.out];rfl,HB0.out⟩
 have HE:=Zh (p:=errYard bef aft ds=errDeeds 0 ds) (by unfold errYard;rw [if_neg (by simp [e1,e2]),if_neg (by rw [← HN.out];exact h40)])
 have d3:decide ((40:Int)<(n:Int))=false:=by simp;omega
 go_enter Try.func29,Try.ntmps29
 go_wp2_with (go_at_call 53;refine(isRest_calls _ _).mono ?_;rintro e w' ⟨rfl,rfl⟩)
 clear e1 e2 d3
 go_loopw [3,24] (fun dv iv wr => ∃(k:Nat) (day:Int),k≤n∧iv=Z O k∧dv=Z O day∧Hid (errDeeds 0 ds=errDeeds day (ds.drop k))∧Hid (Below w.heap.size w wr)) (fun _ iv _=>n-(intOf iv).toNat)
 case atStart=>exact⟨0,0,Nat.zero_le _,rfl,rfl,Zh (by rw [List.drop_zero]),HB0⟩
 case round =>
  obtain⟨k,day,hk,rfl,rfl,HD,HB⟩:=hrel
  by_cases hlt0:k<n
  ·obtain⟨b,off,rfl,hbl,⟨hnc,hcm⟩,hcells⟩:=HCS0.out (by rw [← HN.out];omega)
   have hlt:k<ds.length:=by rw [← HN.out];exact hlt0
   have HCS:=Zh hcells
   have HBL:=Zh hbl
   rw [← HN.out]at hnc
   have hdrop:=drop_get hlt
   have hmem:=get_in hlt
   obtain⟨⟨kind,dy,code,other,⟨al,ah⟩,⟨bl,bh⟩⟩,hd⟩:∃ d,d=ds[k]! :=⟨_,rfl⟩
   have hd:=hd.symm
   rw [hd]at hdrop hmem
   have c0:=(show wr.cell? ⟨b,off+k*8,none⟩=some (Z O kind)from(HB.out.cell (p:=⟨b,off+k*8+0,none⟩) HBL.out).trans (HCS.out k hlt 0 _ (by rw [hd];rfl)))
   have c1:=(show wr.cell? ⟨b,off+k*8+1,none⟩=some (Z O dy)from(HB.out.cell (p:=⟨b,off+k*8+1,none⟩) HBL.out).trans (HCS.out k hlt 1 _ (by rw [hd];rfl)))
   have c2:=(show wr.cell? ⟨b,off+k*8+2,none⟩=some (Zs code)from(HB.out.cell (p:=⟨b,off+k*8+2,none⟩) HBL.out).trans (HCS.out k hlt 2 _ (by rw [hd];rfl)))
   have c3:=(show wr.cell? ⟨b,off+k*8+3,none⟩=some (Zs other)from(HB.out.cell (p:=⟨b,off+k*8+3,none⟩) HBL.out).trans (HCS.out k hlt 3 _ (by rw [hd];rfl)))
   have c4:=(show wr.cell? ⟨b,off+k*8+4,none⟩=some (Z O al)from(HB.out.cell (p:=⟨b,off+k*8+4,none⟩) HBL.out).trans (HCS.out k hlt 4 _ (by rw [hd];rfl)))
   have c5:=(show wr.cell? ⟨b,off+k*8+5,none⟩=some (Z O ah)from(HB.out.cell (p:=⟨b,off+k*8+5,none⟩) HBL.out).trans (HCS.out k hlt 5 _ (by rw [hd];rfl)))
   have c6:=(show wr.cell? ⟨b,off+k*8+6,none⟩=some (Z O bl)from(HB.out.cell (p:=⟨b,off+k*8+6,none⟩) HBL.out).trans (HCS.out k hlt 6 _ (by rw [hd];rfl)))
   have c7:=(show wr.cell? ⟨b,off+k*8+7,none⟩=some (Z O bh)from(HB.out.cell (p:=⟨b,off+k*8+7,none⟩) HBL.out).trans (HCS.out k hlt 7 _ (by rw [hd];rfl)))
   have hED:=HD.out
   rw [hdrop,errDeeds_cons]at hED
   have HS:=Zh (HSZ.out _ hmem)
   have HK:=Zh (Blk.new wr 55 #[Z O kind,Z O dy,Zs code,Zs other,Z O al,Z O ah,Z O bl,Z O bh])
   have HB1:=Zh (HB.out.alloc HB.out.size (.cells #[Z O kind,Z O dy,Zs code,Zs other,Z O al,Z O ah,Z O bl,Z O bh] 55))
   have hkI:(k:Int)<(n:Int):=by omega
   have HCD:=Zh (fun W=>checkDeed_any kind dy day code other al ah bl bh W HS.out.1 HS.out.2)
   generalize hee:errDeed (⟨kind,dy,code,other,⟨al,ah⟩,⟨bl,bh⟩⟩:Deed Code) day=ee at hED HCD
   clear hcells hbl hdrop hd hlt hmem hee
   by_cases he0:ee=0
   ·subst he0
    rw [if_pos rfl]at hED
    have HED:=Zh hED
    clear hED
    go_wp2_with (go_at_call 54;refine(HCD.out _).mono ?_;rintro e w2 ⟨rfl,hb2⟩;have HB2:=Zh (HB1.out.trans (hb2.mono HB1.out.size));have q1:=(HK.out.below hb2).at 1 (Z O dy) rfl;clear hb2)
    go_roundw
    case rel=>exact⟨k+1,dy,by omega,by go_num,rfl,HED,HB2⟩
    case measure=>simp [intOf];omega
   ·rw [if_neg he0]at hED
    have HED:=Zh hED
    have he1:(ee != 0)=true:=by simpa using he0
    clear hED
    go_wp2_with (go_at_call 54;refine(HCD.out _).mono ?_;rintro e w2 ⟨rfl,hb2⟩;have HB2:=Zh (HB1.out.trans (hb2.mono HB1.out.size));have q1:=(HK.out.below hb2).at 1 (Z O dy) rfl;clear hb2)
    go_ret
    exact⟨by rw [HE.out,HED.out];rfl,HB2.out⟩
  ·have hkn:k=n:=by omega
   subst hkn
   go_wp2
   go_ret
   exact⟨by rw [HE.out,HD.out,List.drop_of_length_le (by rw [← HN.out];exact Nat.le_refl _)];rfl,HB.out⟩
def errFirst (bef aft:Int)(ds:List (Deed Code))(n:Int):Int:=if errYard bef aft ds=0 then(if inB n 0 ds.length=true then 0 else 1)else errYard bef aft ds
theorem checkFirst_any (bef aft:Int)(v:Value)(ds:List (Deed Code))(n:Int)(w:World)(h:Held w.heap.size w 8 deedCells v ds)(hsz:∀ d ∈ ds,d.stack.size≤9223372036854775807∧d.other.size≤9223372036854775807) :
  Calls Try.prog 40 #[.agg #[Z O bef,Z O aft,v],Z O n] w fun e w'=>e=.returned (Z O (errFirst bef aft ds n))∧Below w.heap.size w w':=by
 obtain⟨a,c,hv,_,_⟩:=h.slice
 have HCY:=Zh (fun(W:World) (hW:Below w.heap.size w W)=>checkYard_any bef aft v ds W ((h.below hW).mono hW.size) hsz)
 clear hsz
 subst hv
 obtain⟨m,hm⟩:∃ m,m=ds.length:=⟨_,rfl⟩
 rw [← hm]at HCY ⊢
 have HM:=Zh hm
 have HB0:=Zh ((Below.refl w.heap.size w).alloc (Nat.le_refl _) (.cells #[Z O bef,Z O aft,Zl a m c] 24))
 have HK0:=Zh (Blk.new w 24 #[Z O bef,Z O aft,Zl a m c])
 clear h hm
 obtain⟨ey,hey⟩:∃ e,e=errYard bef aft ds:=⟨_,rfl⟩
 rw [← hey]at HCY
 have HEY:=Zh hey
 clear hey
 by_cases hz:ey=0
 ·subst hz
  cases e1:inB n 0 (m:Int)with
  | true =>
    have HE:=Zh (p:=errFirst bef aft ds n=0) (by unfold errFirst;rw [if_pos HEY.out.symm,if_pos (by rw [← HM.out];exact e1)])
    go_enter Try.func40,Try.ntmps40
    go_wp2_with (first
     | (go_at_call 29;refine(HCY.out _ HB0.out).mono ?_;rintro e w2 ⟨rfl,hb2⟩;have HB2:=Zh (HB0.out.trans (hb2.mono HB0.out.size));have y2:=(HK0.out.below hb2).at 2 _ rfl;clear hb2)
     | (go_at_call 47;refine(within_calls _ _ _ _).mono ?_;rintro e w' ⟨rfl,rfl⟩))
    go_ret
    exact⟨by rw [HE.out];rfl,HB2.out⟩
  | false =>
    have HE:=Zh (p:=errFirst bef aft ds n=1) (by unfold errFirst;rw [if_pos HEY.out.symm,if_neg (by rw [← HM.out,e1];simp)])
    go_enter Try.func40,Try.ntmps40
    go_wp2_with (first
     | (go_at_call 29;refine(HCY.out _ HB0.out).mono ?_;rintro e w2 ⟨rfl,hb2⟩;have HB2:=Zh (HB0.out.trans (hb2.mono HB0.out.size));have y2:=(HK0.out.below hb2).at 2 _ rfl;clear hb2)
     | (go_at_call 47;refine(within_calls _ _ _ _).mono ?_;rintro e w' ⟨rfl,rfl⟩))
    go_ret
    exact⟨by rw [HE.out];rfl,HB2.out⟩
 ·have HE:=Zh (p:=errFirst bef aft ds n=ey) (by unfold errFirst;rw [if_neg (by rw [← HEY.out];exact hz)];exact HEY.out.symm)
  have hz1:(ey != 0)=true:=by simpa using hz
  go_enter Try.func40,Try.ntmps40
  go_wp2_with (first
   | (go_at_call 29;refine(HCY.out _ HB0.out).mono ?_;rintro e w2 ⟨rfl,hb2⟩;have HB2:=Zh (HB0.out.trans (hb2.mono HB0.out.size));have y2:=(HK0.out.below hb2).at 2 _ rfl;clear hb2)
   | (go_at_call 47;refine(within_calls _ _ _ _).mono ?_;rintro e w' ⟨rfl,rfl⟩))
  go_ret
  exact⟨by rw [HE.out];rfl,HB2.out⟩
end Go.Proofs.Ytgekekhbhkgekaa
