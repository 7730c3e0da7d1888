/-

-/
import Derived.Test.YtjmepebbcnhalaaGreatV22
namespace Go.Proofs.YtjmepebbcnhalaaGreat
set_option maxRecDepth 100000
set_option maxHeartbeats 8000000
open Go.RowKit
variable {w wr:World} {a d:Int}

theorem zc (ok:Nat→Prop) (b:Nat) (es:List Ent) (p:Pl) (f:Fe) (c0 c1 c2 c3:Int) (w:World) (B:cG ok w b es p) (hc:dI c0 c1 c2 c3=false):Calls Tryz.prog 155 #[.pointer (some ⟨b,0,none⟩),fev f,.agg #[.int .i64 c0,.int .i64 c1,.int .i64 c2,.int .i64 c3]] w fun e w'=>e=.returned (.tuple #[fev Fe.none,.int .i64 2])∧w.grownBy w' none:=by
 obtain⟨W,hW⟩:=Qe (((w.alloc (.cells (fcs f) 122)).alloc (.cells #[.int .i64 c0,.int .i64 c1,.int .i64 c2,.int .i64 c3] 118)).alloc (.cells #[.int .i64 0,.int .u8 0,.int .u16 0,.int .i64 0,.int .i64 0] 122))
 have HS0:Hid (MkS w W w.heap.size (w.heap.size+1+1) f.ho f.su f.tr f.po f.he):=by
  rw[hW]
  refine⟨al (al QG _) _,?_,?_,Qj _,by omega,by omega⟩
  ·exact ag QG (ag QG (ak w _ _) (by simp)) (by simp)
  ·exact jv _ _ _ _ _
 have HA4:Hid (W.heap[w.heap.size+1]?=some (.cells #[.int .i64 c0,.int .i64 c1,.int .i64 c2,.int .i64 c3] 118 (0,0))):=by
  rw[hW]
  exact ag QG (fO _ _ _ _) (by simp)
 have HIB:=lW ok b es p W (B.keep HS0.out.g)
 have HML:=fun X=>lT c0 c1 c2 c3 X
 rw[hc] at HML
 unfold fcs at hW
 unfold fev
 clear B hc
 go_enter Tryz.func155,Tryz.ntmps155
 go_upto_region 1 with fail
 rw[←hW]
 clear hW
 obtain⟨F,hF⟩:=Qe (w.heap.size)
 rw[←hF] at HS0 HA4 ⊢
 obtain⟨V,hV⟩:=Qe (F+1)
 simp only[←hV] at HS0 HA4 ⊢
 obtain⟨R,hR⟩:=Qe (V+1)
 simp only[←hR] at HS0 ⊢
 clear hF hR hV
 go_wp2_with fail
 refine HIB.mono ?_
 rintro e w1 ⟨rfl,g1⟩
 have HS1:Hid (MkS w w1 F R f.ho f.su f.tr f.po f.he):=HS0.out.grow g1
 have HA1:Hid (w1.heap[V]?=some (.cells #[.int .i64 c0,.int .i64 c1,.int .i64 c2,.int .i64 c3] 118 (0,0))):=ag g1 HA4.out (by simp)
 clear HS0 HA4 g1 HIB
 have x0:=aa HA1.out 0
 have x1:=aa HA1.out 1
 have x2:=aa HA1.out 2
 have x3:=aa HA1.out 3
 go_wp2_with fail
 refine(HML w1).mono ?_
 rintro e w2 ⟨rfl,g2⟩
 have HS2:Hid (MkS w w2 F R f.ho f.su f.tr f.po f.he):=HS1.out.grow g2
 clear HS1 HA1 g2 HML x0 x1 x2 x3
 have r0:=aa HS2.out.r 0
 have r1:=aa HS2.out.r 1
 have r2:=aa HS2.out.r 2
 have r3:=aa HS2.out.r 3
 have r4:=aa HS2.out.r 4
 have rf:=fun i=>au HS2.out.r i
 go_wp2
 refine bodyPost_ret (v:=.tuple #[fev Fe.none,.int .i64 2]) (by simp[results,Tryz.results155,go_sem,fev,Fe.none,r0,r1,r2,r3,r4]) rfl ⟨rfl,?_⟩
 exact ar HS2.out.g (((((aj _ _ _ _).trans (aj _ _ _ _)).trans (aj _ _ _ _)).trans (aj _ _ _ _)).trans (aj _ _ _ _)) (fun y e=>by cases e;exact HS2.out.hR)
theorem vK (v:Value) (f:Fe) (c0 c1 c2 c3:Int) (w:World) (B:kI w v):Calls Tryz.prog 155 #[v,fev f,.agg #[.int .i64 c0,.int .i64 c1,.int .i64 c2,.int .i64 c3]] w fun e w'=>e=.returned (.tuple #[fev Fe.none,.int .i64 1])∧w.grownBy w' none:=by
 obtain⟨W,hW⟩:=Qe (((w.alloc (.cells (fcs f) 122)).alloc (.cells #[.int .i64 c0,.int .i64 c1,.int .i64 c2,.int .i64 c3] 118)).alloc (.cells #[.int .i64 0,.int .u8 0,.int .u16 0,.int .i64 0,.int .i64 0] 122))
 have HS0:Hid (MkS w W w.heap.size (w.heap.size+1+1) f.ho f.su f.tr f.po f.he):=by
  rw[hW]
  refine⟨al (al QG _) _,?_,?_,Qj _,by omega,by omega⟩
  ·exact ag QG (ag QG (ak w _ _) (by simp)) (by simp)
  ·exact jv _ _ _ _ _
 have HA4:Hid (W.heap[w.heap.size+1]?=some (.cells #[.int .i64 c0,.int .i64 c1,.int .i64 c2,.int .i64 c3] 118 (0,0))):=by
  rw[hW]
  exact ag QG (fO _ _ _ _) (by simp)
 have HIB:=tX v W (B.keep HS0.out.g)
 unfold fcs at hW
 unfold fev
 clear B
 go_enter Tryz.func155,Tryz.ntmps155
 go_upto_region 1 with fail
 rw[←hW]
 clear hW
 obtain⟨F,hF⟩:=Qe (w.heap.size)
 rw[←hF] at HS0 HA4 ⊢
 obtain⟨V,hV⟩:=Qe (F+1)
 simp only[←hV] at HS0 HA4 ⊢
 obtain⟨R,hR⟩:=Qe (V+1)
 simp only[←hR] at HS0 ⊢
 clear hF hR hV
 clear HA4
 go_wp2_with fail
 refine HIB.mono ?_
 rintro e w1 ⟨rfl,g1⟩
 have HS2:Hid (MkS w w1 F R f.ho f.su f.tr f.po f.he):=HS0.out.grow g1
 clear HS0 g1 HIB
 have r0:=aa HS2.out.r 0
 have r1:=aa HS2.out.r 1
 have r2:=aa HS2.out.r 2
 have r3:=aa HS2.out.r 3
 have r4:=aa HS2.out.r 4
 have rf:=fun i=>au HS2.out.r i
 go_wp2
 refine bodyPost_ret (v:=.tuple #[fev Fe.none,.int .i64 1]) (by simp[results,Tryz.results155,go_sem,fev,Fe.none,r0,r1,r2,r3,r4]) rfl ⟨rfl,?_⟩
 exact ar HS2.out.g (((((aj _ _ _ _).trans (aj _ _ _ _)).trans (aj _ _ _ _)).trans (aj _ _ _ _)).trans (aj _ _ _ _)) (fun y e=>by cases e;exact HS2.out.hR)
structure RkS (w wr:World) (F V R:Nat) (c0 c1 c2 c3 a b c d e:Int):Prop where
 s:MkS w wr F R a b c d e
 v:wr.heap[V]?=some (.cells #[.int .i64 c0,.int .i64 c1,.int .i64 c2,.int .i64 c3] 118 (0,0))
theorem RkS.grow {w2:World} {F V R:Nat} {c0 c1 c2 c3 b c e:Int} (h:RkS w wr F V R c0 c1 c2 c3 a b c d e) (g:wr.grownBy w2 none):RkS w w2 F V R c0 c1 c2 c3 a b c d e:=⟨h.s.grow g,ag g h.v (by simp)⟩
theorem RkS.ne {F V R:Nat} {c0 c1 c2 c3 b c e:Int} (h:RkS w wr F V R c0 c1 c2 c3 a b c d e):¬V=F:=fun q=>by
 have x:=h.s.f
 have y:=h.v
 rw[q,x] at y
 cases y
theorem RkS.set3 {F V R:Nat} {c0 c1 c2 c3 b c e:Int} (h:RkS w wr F V R c0 c1 c2 c3 a b c d e) (x:Int):RkS w (wr.setCell ⟨F,3,none⟩ (.int .i64 x)) F V R c0 c1 c2 c3 a b c x e:=⟨h.s.set3 x,ag (aj wr F 3 (.int .i64 x)) h.v (fun q=>by injection q with q;exact h.ne q)⟩
theorem RkS.set4 {F V R:Nat} {c0 c1 c2 c3 b c e:Int} (h:RkS w wr F V R c0 c1 c2 c3 a b c d e) (x:Int):RkS w (wr.setCell ⟨F,4,none⟩ (.int .i64 x)) F V R c0 c1 c2 c3 a b c d x:=⟨h.s.set4 x,ag (aj wr F 4 (.int .i64 x)) h.v (fun q=>by injection q with q;exact h.ne q)⟩
theorem RkS.drew {F V R:Nat} {c0 c1 c2 c3 b c e:Int} (h:RkS w wr F V R c0 c1 c2 c3 a b c d e) (n:Nat):RkS w (wr.drewN n) F V R c0 c1 c2 c3 a b c d e:=h.grow (aF wr n none)
theorem td (r:Nat) (v:Value) (p:Pl) (f:Fe) (c0 c1 c2 c3:Int) (w:World) (B:RJ w r v p) (hD:MkD p) (hc:dI c0 c1 c2 c3=true) (hI:InI f.po∧InI f.he):Calls Tryz.prog 159 #[.pointer (some ⟨r,0,none⟩),fev f,.agg #[.int .i64 c0,.int .i64 c1,.int .i64 c2,.int .i64 c3]] w fun e w'=>e=.returned (.tuple #[fev (lw p f c0 c1 c2 c3),.int .i64 0])∧w.grownBy w' none:=by
 obtain⟨W,hW⟩:=Qe (((w.alloc (.cells (fcs f) 122)).alloc (.cells #[.int .i64 c0,.int .i64 c1,.int .i64 c2,.int .i64 c3] 118)).alloc (.cells #[.int .i64 0,.int .u8 0,.int .u16 0,.int .i64 0,.int .i64 0] 122))
 have HS0:Hid (MkS w W w.heap.size (w.heap.size+1+1) f.ho f.su f.tr f.po f.he):=by
  rw[hW]
  refine⟨al (al QG _) _,?_,?_,Qj _,by omega,by omega⟩
  ·exact ag QG (ag QG (ak w _ _) (by simp)) (by simp)
  ·exact jv _ _ _ _ _
 have HA4:Hid (W.heap[w.heap.size+1]?=some (.cells #[.int .i64 c0,.int .i64 c1,.int .i64 c2,.int .i64 c3] 118 (0,0))):=by
  rw[hW]
  exact ag QG (fO _ _ _ _) (by simp)
 have HN:=bs r v p W (B.keep HS0.out.g)
 have HB:Hid (RJ w r v p):=B
 have HD:Hid (MkD p):=hD
 have HIn:Hid (InI f.po∧InI f.he):=hI
 clear hD hI
 unfold fcs at hW
 unfold fev
 clear B
 go_enter Tryz.func159,Tryz.ntmps159
 go_upto_region 1 with fail
 rw[←hW]
 clear hW
 obtain⟨F,hF⟩:=Qe (w.heap.size)
 rw[←hF] at HS0 HA4 ⊢
 obtain⟨V,hV⟩:=Qe (F+1)
 simp only[←hV] at HS0 HA4 ⊢
 obtain⟨R,hR⟩:=Qe (V+1)
 simp only[←hR] at HS0 ⊢
 clear hF hR hV
 go_wp2_with fail
 refine HN.mono ?_
 rintro e W1 ⟨rfl,h1⟩
 obtain rfl:W=W1:=h1.symm
 obtain⟨W1,hW1⟩:=Qe (W)
 rw[←hW1] at HS0 HA4 ⊢
 have HS1:Hid (RkS w W1 F V R c0 c1 c2 c3 f.ho f.su f.tr f.po f.he):=⟨HS0.out,HA4.out⟩
 clear HN HS0 HA4 hW1
 go_wp2
 go_loopw [8] (fun x wr=>∃ k:Nat,k≤4∧x=.int .i64 (k:Int)∧Hid (wr=W1∧MlR c0 c1 c2 c3 k)) (fun x _=>4 - (intOf x).toNat)
 case atStart=>exact⟨0,by decide,rfl,rfl,fun h=>absurd h (by decide),fun h=>absurd h (by decide),fun h=>absurd h (by decide),fun h=>absurd h (by decide)⟩
 case round =>
  obtain⟨k,hk,rfl,HR⟩:=hrel
  obtain⟨rfl,hK⟩:=HR.out
  have HK:Hid (MlR c0 c1 c2 c3 k):=hK
  clear hK HR
  rcases (show k=0∨k=1∨k=2∨k=3∨k=4 from by omega) with rfl | rfl | rfl | rfl | rfl
  ·have x0:=aa HS1.out.v 0
   cases h0:okc c0 with
   | false =>
    exact absurd hc (by unfold dI;simp[h0])
   | true =>
    have HK2:Hid (MlR c0 c1 c2 c3 1):=by have q:=HK.out;have r:=h0;exact⟨fun _=>r,fun h=>absurd h (by decide),fun h=>absurd h (by decide),fun h=>absurd h (by decide)⟩
    have l:=dY h0
    have l1:¬c0<0:=by omega
    have l2:¬99<c0:=by omega
    clear h0 HK l
    go_wp2
    go_roundw
    case rel=>exact⟨1,by decide,rfl,by first | exact⟨rfl,HK2.out⟩ | exact⟨trivial,HK2.out⟩⟩
    case measure=>simp[intOf]
  ·have x0:=aa HS1.out.v 1
   cases h1:okc c1 with
   | false =>
    exact absurd hc (by unfold dI;simp[h1])
   | true =>
    have HK2:Hid (MlR c0 c1 c2 c3 2):=by have q:=HK.out;have r:=h1;exact⟨fun _=>q.1 (by decide),fun _=>r,fun h=>absurd h (by decide),fun h=>absurd h (by decide)⟩
    have l:=dY h1
    have l1:¬c1<0:=by omega
    have l2:¬99<c1:=by omega
    clear h1 HK l
    go_wp2
    go_roundw
    case rel=>exact⟨2,by decide,rfl,by first | exact⟨rfl,HK2.out⟩ | exact⟨trivial,HK2.out⟩⟩
    case measure=>simp[intOf]
  ·have x0:=aa HS1.out.v 2
   cases h2:okc c2 with
   | false =>
    exact absurd hc (by unfold dI;simp[h2])
   | true =>
    have HK2:Hid (MlR c0 c1 c2 c3 3):=by have q:=HK.out;have r:=h2;exact⟨fun _=>q.1 (by decide),fun _=>q.2.1 (by decide),fun _=>r,fun h=>absurd h (by decide)⟩
    have l:=dY h2
    have l1:¬c2<0:=by omega
    have l2:¬99<c2:=by omega
    clear h2 HK l
    go_wp2
    go_roundw
    case rel=>exact⟨3,by decide,rfl,by first | exact⟨rfl,HK2.out⟩ | exact⟨trivial,HK2.out⟩⟩
    case measure=>simp[intOf]
  ·have x0:=aa HS1.out.v 3
   cases h3:okc c3 with
   | false =>
    exact absurd hc (by unfold dI;simp[h3])
   | true =>
    have HK2:Hid (MlR c0 c1 c2 c3 4):=by have q:=HK.out;have r:=h3;exact⟨fun _=>q.1 (by decide),fun _=>q.2.1 (by decide),fun _=>q.2.2.1 (by decide),fun _=>r⟩
    have l:=dY h3
    have l1:¬c3<0:=by omega
    have l2:¬99<c3:=by omega
    clear h3 HK l
    go_wp2
    go_roundw
    case rel=>exact⟨4,by decide,rfl,by first | exact⟨rfl,HK2.out⟩ | exact⟨trivial,HK2.out⟩⟩
    case measure=>simp[intOf]
  ·clear HK
   clear hc
   obtain⟨wz,hwz⟩:=Qe (wr)
   subst hwz
   rw[show ((4:Nat):Int)=(4:Int) from rfl]
   go_wp2_with fail
   go_loopw [9,10,11] (fun x _ _ wr=>∃ k:Nat,k≤4∧x=.int .i64 (k:Int)∧Hid (RkS w wr F V R c0 c1 c2 c3 f.ho f.su f.tr (dG f.po (zk p c0 c1 c2 c3 k)) (dL f.he (zk p c0 c1 c2 c3 k)))) (fun x _ _ _=>4 - (intOf x).toNat)
   case atStart=>exact⟨0,by decide,rfl,HS1⟩
   case round =>
   obtain⟨k,hk,rfl,HS⟩:=hrel
   clear HS1
   obtain⟨pk,hpk⟩:=Qe (dG f.po (zk p c0 c1 c2 c3 k))
   obtain⟨hk2,hhk⟩:=Qe (dL f.he (zk p c0 c1 c2 c3 k))
   rw[←hpk,←hhk] at HS
   have HPk:Hid (pk=dG f.po (zk p c0 c1 c2 c3 k)):=hpk
   have HHk:Hid (hk2=dL f.he (zk p c0 c1 c2 c3 k)):=hhk
   clear hpk hhk
   rcases (show k=0∨k=1∨k=2∨k=3∨k=4 from by omega) with rfl | rfl | rfl | rfl | rfl
   ·obtain⟨⟨mi,mn,mp,mh⟩,hm⟩:∃ m,m=moM p 1:=⟨_,rfl⟩
    have HM:=gJ r v p 1 wr (HB.out.keep HS.out.s.g) (by decide) HD.out
    simp only[Int.cast_ofNat_Int] at HM
    rw[←hm] at HM
    unfold mv at HM
    have HP:Hid (dG f.po (zk p c0 c1 c2 c3 1)=wrap64 (pk+wrap64 (c0*mp))):=by
     have q:=HPk.out
     show dG f.po (zk p c0 c1 c2 c3 0++[(c0,moM p 1)])=_
     rw[eC,←hm,←q]
     rfl
    have HH:Hid (dL f.he (zk p c0 c1 c2 c3 1)=wrap64 (hk2+wrap64 (c0*mh))):=by
     have q:=HHk.out
     show dL f.he (zk p c0 c1 c2 c3 0++[(c0,moM p 1)])=_
     rw[ey,←hm,←q]
     rfl
    have HNo:Hid (moB p 1=false→dG f.po (zk p c0 c1 c2 c3 1)=pk∧dL f.he (zk p c0 c1 c2 c3 1)=hk2):=fun hb=>by
     have q:=ru HD.out hb
     rw[←hm] at q
     have q1:mp=0:=q.1
     have q2:mh=0:=q.2
     rw[HP.out,HH.out,q1,q2]
     simp only[Int.mul_zero]
     have i1:InI pk:=by rw[HPk.out];exact kR HIn.out.1 _
     have i2:InI hk2:=by rw[HHk.out];exact jZ HIn.out.2 _
     have z:wrap64 0=0:=by unfold wrap64;omega
     simp only[z,Int.add_zero]
     exact⟨gy i1,gy i2⟩
    obtain⟨mb,hmb⟩:=Qe (moB p 1)
    rw[←hmb] at HM HNo
    clear hm hmb HPk HHk
    go_upto_region 12 with (first | (go_at_call 226;refine HM.mono ?_;rintro e w2 ⟨rfl,g2⟩;have HG2:Hid (wr.grownBy w2 none):=g2;clear g2) | fail)
    obtain⟨X,hX⟩:=Qe (w2.alloc (.cells #[.int .u8 mi,.string mn,.int .i64 mp,.int .i64 mh] 115))
    have HX:Hid (RkS w X F V R c0 c1 c2 c3 f.ho f.su f.tr pk hk2):=by rw[hX];exact(HS.out.grow HG2.out).grow QG
    have HXm:Hid (X.heap[w2.heap.size]?=some (.cells #[.int .u8 mi,.string mn,.int .i64 mp,.int .i64 mh] 115 (0,0))):=by rw[hX];exact ak _ _ _
    rw[←hX]
    clear hX HM
    obtain⟨G,hG⟩:=Qe (w2.heap.size)
    rw[←hG] at HXm ⊢
    clear hG
    cases mb with
    | false =>
     have HX2:Hid (RkS w X F V R c0 c1 c2 c3 f.ho f.su f.tr (dG f.po (zk p c0 c1 c2 c3 1)) (dL f.he (zk p c0 c1 c2 c3 1))):=by
      have q:=HNo.out rfl
      rw[q.1,q.2]
      exact HX
     clear HNo HX HP HH
     go_wp2_with fail
     go_roundw
     case rel=>exact⟨1,by decide,rfl,HX2⟩
     case measure=>simp[intOf]
    | true =>
     clear HNo
     have y3:=aa HX.out.s.f 3
     have y4:=aa HX.out.s.f 4
     have yf:=fun i=>au HX.out.s.f i
     have z2:=aa HXm.out 2
     have z3:=aa HXm.out 3
     have x0:=aa HX.out.v 0
     have HN:Hid (¬F=G):=fun e=>by
      have a:=HX.out.s.f
      have c:=HXm.out
      rw[e,c] at a
      cases a
     have hne:¬F=G:=HN.out
     have hne':¬G=F:=fun e=>HN.out e.symm
     have hnv:¬V=F:=HX.out.ne
     have hnv':¬F=V:=fun e=>HX.out.ne e.symm
     clear HN
     go_wp2_with fail
     go_region
     go_wp2_with fail
     go_region
     go_wp2_with fail
     go_roundw
     case rel=>exact⟨1,by decide,rfl,by rw[HP.out,HH.out];exact((HX.out.set3 _).set4 _).grow (ae (ai _) (ai _))⟩
     case measure=>simp[intOf]
   ·obtain⟨⟨mi,mn,mp,mh⟩,hm⟩:∃ m,m=moM p 2:=⟨_,rfl⟩
    have HM:=gJ r v p 2 wr (HB.out.keep HS.out.s.g) (by decide) HD.out
    simp only[Int.cast_ofNat_Int] at HM
    rw[←hm] at HM
    unfold mv at HM
    have HP:Hid (dG f.po (zk p c0 c1 c2 c3 2)=wrap64 (pk+wrap64 (c1*mp))):=by
     have q:=HPk.out
     show dG f.po (zk p c0 c1 c2 c3 1++[(c1,moM p 2)])=_
     rw[eC,←hm,←q]
     rfl
    have HH:Hid (dL f.he (zk p c0 c1 c2 c3 2)=wrap64 (hk2+wrap64 (c1*mh))):=by
     have q:=HHk.out
     show dL f.he (zk p c0 c1 c2 c3 1++[(c1,moM p 2)])=_
     rw[ey,←hm,←q]
     rfl
    have HNo:Hid (moB p 2=false→dG f.po (zk p c0 c1 c2 c3 2)=pk∧dL f.he (zk p c0 c1 c2 c3 2)=hk2):=fun hb=>by
     have q:=ru HD.out hb
     rw[←hm] at q
     have q1:mp=0:=q.1
     have q2:mh=0:=q.2
     rw[HP.out,HH.out,q1,q2]
     simp only[Int.mul_zero]
     have i1:InI pk:=by rw[HPk.out];exact kR HIn.out.1 _
     have i2:InI hk2:=by rw[HHk.out];exact jZ HIn.out.2 _
     have z:wrap64 0=0:=by unfold wrap64;omega
     simp only[z,Int.add_zero]
     exact⟨gy i1,gy i2⟩
    obtain⟨mb,hmb⟩:=Qe (moB p 2)
    rw[←hmb] at HM HNo
    clear hm hmb HPk HHk
    go_upto_region 12 with (first | (go_at_call 226;refine HM.mono ?_;rintro e w2 ⟨rfl,g2⟩;have HG2:Hid (wr.grownBy w2 none):=g2;clear g2) | fail)
    obtain⟨X,hX⟩:=Qe (w2.alloc (.cells #[.int .u8 mi,.string mn,.int .i64 mp,.int .i64 mh] 115))
    have HX:Hid (RkS w X F V R c0 c1 c2 c3 f.ho f.su f.tr pk hk2):=by rw[hX];exact(HS.out.grow HG2.out).grow QG
    have HXm:Hid (X.heap[w2.heap.size]?=some (.cells #[.int .u8 mi,.string mn,.int .i64 mp,.int .i64 mh] 115 (0,0))):=by rw[hX];exact ak _ _ _
    rw[←hX]
    clear hX HM
    obtain⟨G,hG⟩:=Qe (w2.heap.size)
    rw[←hG] at HXm ⊢
    clear hG
    cases mb with
    | false =>
     have HX2:Hid (RkS w X F V R c0 c1 c2 c3 f.ho f.su f.tr (dG f.po (zk p c0 c1 c2 c3 2)) (dL f.he (zk p c0 c1 c2 c3 2))):=by
      have q:=HNo.out rfl
      rw[q.1,q.2]
      exact HX
     clear HNo HX HP HH
     go_wp2_with fail
     go_roundw
     case rel=>exact⟨2,by decide,rfl,HX2⟩
     case measure=>simp[intOf]
    | true =>
     clear HNo
     have y3:=aa HX.out.s.f 3
     have y4:=aa HX.out.s.f 4
     have yf:=fun i=>au HX.out.s.f i
     have z2:=aa HXm.out 2
     have z3:=aa HXm.out 3
     have x1:=aa HX.out.v 1
     have HN:Hid (¬F=G):=fun e=>by
      have a:=HX.out.s.f
      have c:=HXm.out
      rw[e,c] at a
      cases a
     have hne:¬F=G:=HN.out
     have hne':¬G=F:=fun e=>HN.out e.symm
     have hnv:¬V=F:=HX.out.ne
     have hnv':¬F=V:=fun e=>HX.out.ne e.symm
     clear HN
     go_wp2_with fail
     go_region
     go_wp2_with fail
     go_region
     go_wp2_with fail
     go_roundw
     case rel=>exact⟨2,by decide,rfl,by rw[HP.out,HH.out];exact((HX.out.set3 _).set4 _).grow (ae (ai _) (ai _))⟩
     case measure=>simp[intOf]
   ·obtain⟨⟨mi,mn,mp,mh⟩,hm⟩:∃ m,m=moM p 3:=⟨_,rfl⟩
    have HM:=gJ r v p 3 wr (HB.out.keep HS.out.s.g) (by decide) HD.out
    simp only[Int.cast_ofNat_Int] at HM
    rw[←hm] at HM
    unfold mv at HM
    have HP:Hid (dG f.po (zk p c0 c1 c2 c3 3)=wrap64 (pk+wrap64 (c2*mp))):=by
     have q:=HPk.out
     show dG f.po (zk p c0 c1 c2 c3 2++[(c2,moM p 3)])=_
     rw[eC,←hm,←q]
     rfl
    have HH:Hid (dL f.he (zk p c0 c1 c2 c3 3)=wrap64 (hk2+wrap64 (c2*mh))):=by
     have q:=HHk.out
     show dL f.he (zk p c0 c1 c2 c3 2++[(c2,moM p 3)])=_
     rw[ey,←hm,←q]
     rfl
    have HNo:Hid (moB p 3=false→dG f.po (zk p c0 c1 c2 c3 3)=pk∧dL f.he (zk p c0 c1 c2 c3 3)=hk2):=fun hb=>by
     have q:=ru HD.out hb
     rw[←hm] at q
     have q1:mp=0:=q.1
     have q2:mh=0:=q.2
     rw[HP.out,HH.out,q1,q2]
     simp only[Int.mul_zero]
     have i1:InI pk:=by rw[HPk.out];exact kR HIn.out.1 _
     have i2:InI hk2:=by rw[HHk.out];exact jZ HIn.out.2 _
     have z:wrap64 0=0:=by unfold wrap64;omega
     simp only[z,Int.add_zero]
     exact⟨gy i1,gy i2⟩
    obtain⟨mb,hmb⟩:=Qe (moB p 3)
    rw[←hmb] at HM HNo
    clear hm hmb HPk HHk
    go_upto_region 12 with (first | (go_at_call 226;refine HM.mono ?_;rintro e w2 ⟨rfl,g2⟩;have HG2:Hid (wr.grownBy w2 none):=g2;clear g2) | fail)
    obtain⟨X,hX⟩:=Qe (w2.alloc (.cells #[.int .u8 mi,.string mn,.int .i64 mp,.int .i64 mh] 115))
    have HX:Hid (RkS w X F V R c0 c1 c2 c3 f.ho f.su f.tr pk hk2):=by rw[hX];exact(HS.out.grow HG2.out).grow QG
    have HXm:Hid (X.heap[w2.heap.size]?=some (.cells #[.int .u8 mi,.string mn,.int .i64 mp,.int .i64 mh] 115 (0,0))):=by rw[hX];exact ak _ _ _
    rw[←hX]
    clear hX HM
    obtain⟨G,hG⟩:=Qe (w2.heap.size)
    rw[←hG] at HXm ⊢
    clear hG
    cases mb with
    | false =>
     have HX2:Hid (RkS w X F V R c0 c1 c2 c3 f.ho f.su f.tr (dG f.po (zk p c0 c1 c2 c3 3)) (dL f.he (zk p c0 c1 c2 c3 3))):=by
      have q:=HNo.out rfl
      rw[q.1,q.2]
      exact HX
     clear HNo HX HP HH
     go_wp2_with fail
     go_roundw
     case rel=>exact⟨3,by decide,rfl,HX2⟩
     case measure=>simp[intOf]
    | true =>
     clear HNo
     have y3:=aa HX.out.s.f 3
     have y4:=aa HX.out.s.f 4
     have yf:=fun i=>au HX.out.s.f i
     have z2:=aa HXm.out 2
     have z3:=aa HXm.out 3
     have x2:=aa HX.out.v 2
     have HN:Hid (¬F=G):=fun e=>by
      have a:=HX.out.s.f
      have c:=HXm.out
      rw[e,c] at a
      cases a
     have hne:¬F=G:=HN.out
     have hne':¬G=F:=fun e=>HN.out e.symm
     have hnv:¬V=F:=HX.out.ne
     have hnv':¬F=V:=fun e=>HX.out.ne e.symm
     clear HN
     go_wp2_with fail
     go_region
     go_wp2_with fail
     go_region
     go_wp2_with fail
     go_roundw
     case rel=>exact⟨3,by decide,rfl,by rw[HP.out,HH.out];exact((HX.out.set3 _).set4 _).grow (ae (ai _) (ai _))⟩
     case measure=>simp[intOf]
   ·obtain⟨⟨mi,mn,mp,mh⟩,hm⟩:∃ m,m=moM p 4:=⟨_,rfl⟩
    have HM:=gJ r v p 4 wr (HB.out.keep HS.out.s.g) (by decide) HD.out
    simp only[Int.cast_ofNat_Int] at HM
    rw[←hm] at HM
    unfold mv at HM
    have HP:Hid (dG f.po (zk p c0 c1 c2 c3 4)=wrap64 (pk+wrap64 (c3*mp))):=by
     have q:=HPk.out
     show dG f.po (zk p c0 c1 c2 c3 3++[(c3,moM p 4)])=_
     rw[eC,←hm,←q]
     rfl
    have HH:Hid (dL f.he (zk p c0 c1 c2 c3 4)=wrap64 (hk2+wrap64 (c3*mh))):=by
     have q:=HHk.out
     show dL f.he (zk p c0 c1 c2 c3 3++[(c3,moM p 4)])=_
     rw[ey,←hm,←q]
     rfl
    have HNo:Hid (moB p 4=false→dG f.po (zk p c0 c1 c2 c3 4)=pk∧dL f.he (zk p c0 c1 c2 c3 4)=hk2):=fun hb=>by
     have q:=ru HD.out hb
     rw[←hm] at q
     have q1:mp=0:=q.1
     have q2:mh=0:=q.2
     rw[HP.out,HH.out,q1,q2]
     simp only[Int.mul_zero]
     have i1:InI pk:=by rw[HPk.out];exact kR HIn.out.1 _
     have i2:InI hk2:=by rw[HHk.out];exact jZ HIn.out.2 _
     have z:wrap64 0=0:=by unfold wrap64;omega
     simp only[z,Int.add_zero]
     exact⟨gy i1,gy i2⟩
    obtain⟨mb,hmb⟩:=Qe (moB p 4)
    rw[←hmb] at HM HNo
    clear hm hmb HPk HHk
    go_upto_region 12 with (first | (go_at_call 226;refine HM.mono ?_;rintro e w2 ⟨rfl,g2⟩;have HG2:Hid (wr.grownBy w2 none):=g2;clear g2) | fail)
    obtain⟨X,hX⟩:=Qe (w2.alloc (.cells #[.int .u8 mi,.string mn,.int .i64 mp,.int .i64 mh] 115))
    have HX:Hid (RkS w X F V R c0 c1 c2 c3 f.ho f.su f.tr pk hk2):=by rw[hX];exact(HS.out.grow HG2.out).grow QG
    have HXm:Hid (X.heap[w2.heap.size]?=some (.cells #[.int .u8 mi,.string mn,.int .i64 mp,.int .i64 mh] 115 (0,0))):=by rw[hX];exact ak _ _ _
    rw[←hX]
    clear hX HM
    obtain⟨G,hG⟩:=Qe (w2.heap.size)
    rw[←hG] at HXm ⊢
    clear hG
    cases mb with
    | false =>
     have HX2:Hid (RkS w X F V R c0 c1 c2 c3 f.ho f.su f.tr (dG f.po (zk p c0 c1 c2 c3 4)) (dL f.he (zk p c0 c1 c2 c3 4))):=by
      have q:=HNo.out rfl
      rw[q.1,q.2]
      exact HX
     clear HNo HX HP HH
     go_wp2_with fail
     go_roundw
     case rel=>exact⟨4,by decide,rfl,HX2⟩
     case measure=>simp[intOf]
    | true =>
     clear HNo
     have y3:=aa HX.out.s.f 3
     have y4:=aa HX.out.s.f 4
     have yf:=fun i=>au HX.out.s.f i
     have z2:=aa HXm.out 2
     have z3:=aa HXm.out 3
     have x3:=aa HX.out.v 3
     have HN:Hid (¬F=G):=fun e=>by
      have a:=HX.out.s.f
      have c:=HXm.out
      rw[e,c] at a
      cases a
     have hne:¬F=G:=HN.out
     have hne':¬G=F:=fun e=>HN.out e.symm
     have hnv:¬V=F:=HX.out.ne
     have hnv':¬F=V:=fun e=>HX.out.ne e.symm
     clear HN
     go_wp2_with fail
     go_region
     go_wp2_with fail
     go_region
     go_wp2_with fail
     go_roundw
     case rel=>exact⟨4,by decide,rfl,by rw[HP.out,HH.out];exact((HX.out.set3 _).set4 _).grow (ae (ai _) (ai _))⟩
     case measure=>simp[intOf]
   ·have y0:=aa HS.out.s.f 0
    have y1:=aa HS.out.s.f 1
    have y2:=aa HS.out.s.f 2
    have y3:=aa HS.out.s.f 3
    have y4:=aa HS.out.s.f 4
    have yf:=fun i=>au HS.out.s.f i
    have r0:=aa HS.out.s.r 0
    have r1:=aa HS.out.s.r 1
    have r2:=aa HS.out.s.r 2
    have r3:=aa HS.out.s.r 3
    have r4:=aa HS.out.s.r 4
    have rf:=fun i=>au HS.out.s.r i
    have hne:¬F=R:=HS.out.s.ne
    have hne':¬R=F:=fun e=>HS.out.s.ne e.symm
    by_cases hneg:pk<0
    ·have HE:Hid (lw p f c0 c1 c2 c3=⟨f.ho,f.su,f.tr,0,hk2⟩):=by
      show lw p f c0 c1 c2 c3=_
      unfold lw Bc
      rw[show dG f.po (zs p c0 c1 c2 c3)=pk from HPk.out.symm,if_pos hneg,HHk.out]
      rfl
     clear HPk HHk
     go_wp2
     refine bodyPost_ret (v:=.tuple #[fev ⟨f.ho,f.su,f.tr,0,hk2⟩,.int .i64 0]) (by simp[results,Tryz.results159,go_sem,fev,r0,r1,r2,r3,r4]) rfl ⟨by rw[HE.out];rfl,?_⟩
     exact ar (ar HS.out.s.g (aj _ _ _ _) (fun y e=>by cases e;exact HS.out.s.hF)) (((((aj _ _ _ _).trans (aj _ _ _ _)).trans (aj _ _ _ _)).trans (aj _ _ _ _)).trans (aj _ _ _ _)) (fun y e=>by cases e;exact HS.out.s.hR)
    ·have HE:Hid (lw p f c0 c1 c2 c3=⟨f.ho,f.su,f.tr,pk,hk2⟩):=by
      show lw p f c0 c1 c2 c3=_
      unfold lw Bc
      rw[show dG f.po (zs p c0 c1 c2 c3)=pk from HPk.out.symm,if_neg hneg,HHk.out]
      rfl
     clear HPk HHk
     go_wp2
     refine bodyPost_ret (v:=.tuple #[fev ⟨f.ho,f.su,f.tr,pk,hk2⟩,.int .i64 0]) (by simp[results,Tryz.results159,go_sem,fev,r0,r1,r2,r3,r4]) rfl ⟨by rw[HE.out];rfl,?_⟩
     exact ar HS.out.s.g (((((aj _ _ _ _).trans (aj _ _ _ _)).trans (aj _ _ _ _)).trans (aj _ _ _ _)).trans (aj _ _ _ _)) (fun y e=>by cases e;exact HS.out.s.hR)
end Go.Proofs.YtjmepebbcnhalaaGreat
