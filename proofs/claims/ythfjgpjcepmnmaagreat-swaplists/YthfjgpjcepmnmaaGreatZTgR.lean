/-
  thing.Marked where it refuses;the document's Marked;what is left of a unit's health.
-/
import Derived.Test.YthfjgpjcepmnmaaGreatZ22
import Derived.Test.YthfjgpjcepmnmaaGreatZ15
namespace Go.Proofs.YthfjgpjcepmnmaaGreat
set_option maxRecDepth 100000
set_option maxHeartbeats 8000000
open Go.RowKit

structure RkS (w wr:World) (F V R:Nat) (c0 c1 c2 c3 a b c d e:Int):Prop where
 s:MkS w wr F R a b c d e
 v:wr.heap[V]?=some (.cells #[.int .i64 c0,.int .i64 c1,.int .i64 c2,.int .i64 c3] 98 (0,0))
theorem RkS.grow {w wr w2:World} {F V R:Nat} {c0 c1 c2 c3 a b c d e:Int} (h:RkS w wr F V R c0 c1 c2 c3 a b c d e) (g:wr.grownBy w2 none):RkS w w2 F V R c0 c1 c2 c3 a b c d e:=⟨h.s.grow g,grown_keep g h.v (by simp)⟩
theorem RkS.ne {w wr:World} {F V R:Nat} {c0 c1 c2 c3 a b c d e:Int} (h:RkS w wr F V R c0 c1 c2 c3 a b c d e):¬V=F:=fun q=>by
 have x:=h.s.f
 have y:=h.v
 rw[q,x] at y
 cases y
theorem RkS.set3 {w wr:World} {F V R:Nat} {c0 c1 c2 c3 a b c d e:Int} (h:RkS w wr F V R c0 c1 c2 c3 a b c d e) (x:Int):RkS w (wr.setCell ⟨F,3,none⟩ (.int .i64 x)) F V R c0 c1 c2 c3 a b c x e:=⟨h.s.set3 x,grown_keep (grown_set wr F 3 (.int .i64 x)) h.v (fun q=>by injection q with q;exact h.ne q)⟩
theorem RkS.set4 {w wr:World} {F V R:Nat} {c0 c1 c2 c3 a b c d e:Int} (h:RkS w wr F V R c0 c1 c2 c3 a b c d e) (x:Int):RkS w (wr.setCell ⟨F,4,none⟩ (.int .i64 x)) F V R c0 c1 c2 c3 a b c d x:=⟨h.s.set4 x,grown_keep (grown_set wr F 4 (.int .i64 x)) h.v (fun q=>by injection q with q;exact h.ne q)⟩
theorem RkS.drew {w wr:World} {F V R:Nat} {c0 c1 c2 c3 a b c d e:Int} (h:RkS w wr F V R c0 c1 c2 c3 a b c d e) (n:Nat):RkS w (wr.drewN n) F V R c0 c1 c2 c3 a b c d e:=h.grow (grown_drewN wr n none)
theorem rmarked_yes (r:Nat) (v:Value) (p:Pl) (f:Fe) (c0 c1 c2 c3:Int) (w:World) (B:RJ w r v p) (hD:MkD p) (hc:okcs c0 c1 c2 c3=true) (hI:InI f.po∧InI f.he):Calls Tryz.prog 183 #[.pointer (some ⟨r,0,none⟩),fev f,.agg #[.int .i64 c0,.int .i64 c1,.int .i64 c2,.int .i64 c3]] w fun e w'=>e=.returned (.tuple #[fev (mkdF p f c0 c1 c2 c3),.int .i64 0])∧w.grownBy w' none:=by
 obtain⟨W,hW⟩:∃ W,W=((w.alloc (.cells (fcs f) 65)).alloc (.cells #[.int .i64 c0,.int .i64 c1,.int .i64 c2,.int .i64 c3] 98)).alloc (.cells #[.int .i64 0,.int .u8 0,.int .u16 0,.int .i64 0,.int .i64 0] 65):=⟨_,rfl⟩
 have HS0:Hid (MkS w W w.heap.size (w.heap.size+1+1) f.ho f.su f.tr f.po f.he):=by
  rw[hW]
  refine⟨grown_push (grown_push (World.grownBy_alloc _ _ none) _) _,?_,?_,Nat.le_refl _,by omega,by omega⟩
  ·exact grown_keep (World.grownBy_alloc _ _ none) (grown_keep (World.grownBy_alloc _ _ none) (alloc_at w _ _) (by simp)) (by simp)
  ·exact alloc3_at _ _ _ _ _
 have HA4:Hid (W.heap[w.heap.size+1]?=some (.cells #[.int .i64 c0,.int .i64 c1,.int .i64 c2,.int .i64 c3] 98 (0,0))):=by
  rw[hW]
  exact grown_keep (World.grownBy_alloc _ _ none) (alloc2_at _ _ _ _) (by simp)
 have HN:=rnone_any r v p W (B.keep HS0.out.g)
 have HB:Hid (RJ w r v p):=B
 have HD:Hid (MkD p):=hD
 have HIn:Hid (InI f.po∧InI f.he):=hI
 clear hD hI
 unfold fcs at hW
 unfold fev
 clear B
 go_enter Tryz.func183,Tryz.ntmps183
 go_upto_region 1 with fail
 rw[←hW]
 clear hW
 obtain⟨F,hF⟩:∃ F,F=w.heap.size:=⟨_,rfl⟩
 rw[←hF] at HS0 HA4 ⊢
 obtain⟨V,hV⟩:∃ V,V=F+1:=⟨_,rfl⟩
 simp only[←hV] at HS0 HA4 ⊢
 obtain⟨R,hR⟩:∃ R,R=V+1:=⟨_,rfl⟩
 simp only[←hR] at HS0 ⊢
 clear hF hR hV
 go_wp2_with fail
 refine HN.mono ?_
 rintro e W1 ⟨rfl,h1⟩
 obtain rfl:W=W1:=h1.symm
 obtain⟨W1,hW1⟩:∃ W1,W1=W:=⟨_,rfl⟩
 rw[←hW1] at HS0 HA4 ⊢
 have HS1:Hid (RkS w W1 F V R c0 c1 c2 c3 f.ho f.su f.tr f.po f.he):=⟨HS0.out,HA4.out⟩
 clear HN HS0 HA4 hW1
 go_wp2
 go_loopw [8] (fun x wr=>∃ k:Nat,k≤4∧x=.int .i64 (k:Int)∧Hid (wr=W1∧MlR c0 c1 c2 c3 k)) (fun x _=>4 - (intOf x).toNat)
 case atStart=>exact⟨0,by decide,rfl,rfl,fun h=>absurd h (by decide),fun h=>absurd h (by decide),fun h=>absurd h (by decide),fun h=>absurd h (by decide)⟩
 case round =>
  obtain⟨k,hk,rfl,HR⟩:=hrel
  obtain⟨rfl,hK⟩:=HR.out
  have HK:Hid (MlR c0 c1 c2 c3 k):=hK
  clear hK HR
  rcases (show k=0∨k=1∨k=2∨k=3∨k=4 from by omega) with rfl | rfl | rfl | rfl | rfl
  ·have x0:=block_cell HS1.out.v 0
   cases h0:okc c0 with
   | false =>
    exact absurd hc (by unfold okcs;simp[h0])
   | true =>
    have HK2:Hid (MlR c0 c1 c2 c3 1):=by have q:=HK.out;have r:=h0;exact⟨fun _=>r,fun h=>absurd h (by decide),fun h=>absurd h (by decide),fun h=>absurd h (by decide)⟩
    have l:=okc_yes h0
    have l1:¬c0<0:=by omega
    have l2:¬99<c0:=by omega
    clear h0 HK l
    go_wp2
    go_roundw
    case rel=>exact⟨1,by decide,rfl,by first | exact⟨rfl,HK2.out⟩ | exact⟨trivial,HK2.out⟩⟩
    case measure=>simp[intOf]
  ·have x0:=block_cell HS1.out.v 1
   cases h1:okc c1 with
   | false =>
    exact absurd hc (by unfold okcs;simp[h1])
   | true =>
    have HK2:Hid (MlR c0 c1 c2 c3 2):=by have q:=HK.out;have r:=h1;exact⟨fun _=>q.1 (by decide),fun _=>r,fun h=>absurd h (by decide),fun h=>absurd h (by decide)⟩
    have l:=okc_yes h1
    have l1:¬c1<0:=by omega
    have l2:¬99<c1:=by omega
    clear h1 HK l
    go_wp2
    go_roundw
    case rel=>exact⟨2,by decide,rfl,by first | exact⟨rfl,HK2.out⟩ | exact⟨trivial,HK2.out⟩⟩
    case measure=>simp[intOf]
  ·have x0:=block_cell HS1.out.v 2
   cases h2:okc c2 with
   | false =>
    exact absurd hc (by unfold okcs;simp[h2])
   | true =>
    have HK2:Hid (MlR c0 c1 c2 c3 3):=by have q:=HK.out;have r:=h2;exact⟨fun _=>q.1 (by decide),fun _=>q.2.1 (by decide),fun _=>r,fun h=>absurd h (by decide)⟩
    have l:=okc_yes h2
    have l1:¬c2<0:=by omega
    have l2:¬99<c2:=by omega
    clear h2 HK l
    go_wp2
    go_roundw
    case rel=>exact⟨3,by decide,rfl,by first | exact⟨rfl,HK2.out⟩ | exact⟨trivial,HK2.out⟩⟩
    case measure=>simp[intOf]
  ·have x0:=block_cell HS1.out.v 3
   cases h3:okc c3 with
   | false =>
    exact absurd hc (by unfold okcs;simp[h3])
   | true =>
    have HK2:Hid (MlR c0 c1 c2 c3 4):=by have q:=HK.out;have r:=h3;exact⟨fun _=>q.1 (by decide),fun _=>q.2.1 (by decide),fun _=>q.2.2.1 (by decide),fun _=>r⟩
    have l:=okc_yes h3
    have l1:¬c3<0:=by omega
    have l2:¬99<c3:=by omega
    clear h3 HK l
    go_wp2
    go_roundw
    case rel=>exact⟨4,by decide,rfl,by first | exact⟨rfl,HK2.out⟩ | exact⟨trivial,HK2.out⟩⟩
    case measure=>simp[intOf]
  ·clear HK
   clear hc
   obtain⟨wz,hwz⟩:∃ wz,wz=wr:=⟨_,rfl⟩
   subst hwz
   rw[show ((4:Nat):Int)=(4:Int) from rfl]
   go_wp2_with fail
   go_loopw [9,10,11] (fun x _ _ wr=>∃ k:Nat,k≤4∧x=.int .i64 (k:Int)∧Hid (RkS w wr F V R c0 c1 c2 c3 f.ho f.su f.tr (addP f.po (zk p c0 c1 c2 c3 k)) (addH f.he (zk p c0 c1 c2 c3 k)))) (fun x _ _ _=>4 - (intOf x).toNat)
   case atStart=>exact⟨0,by decide,rfl,HS1⟩
   case round =>
   obtain⟨k,hk,rfl,HS⟩:=hrel
   clear HS1
   obtain⟨pk,hpk⟩:∃ pk,pk=addP f.po (zk p c0 c1 c2 c3 k):=⟨_,rfl⟩
   obtain⟨hk2,hhk⟩:∃ hk2,hk2=addH f.he (zk p c0 c1 c2 c3 k):=⟨_,rfl⟩
   rw[←hpk,←hhk] at HS
   have HPk:Hid (pk=addP f.po (zk p c0 c1 c2 c3 k)):=hpk
   have HHk:Hid (hk2=addH f.he (zk p c0 c1 c2 c3 k)):=hhk
   clear hpk hhk
   rcases (show k=0∨k=1∨k=2∨k=3∨k=4 from by omega) with rfl | rfl | rfl | rfl | rfl
   ·obtain⟨⟨mi,mn,mp,mh⟩,hm⟩:∃ m,m=moM p 1:=⟨_,rfl⟩
    have HM:=rmarkOf_any r v p 1 wr (HB.out.keep HS.out.s.g) (by decide) HD.out
    simp only[Int.cast_ofNat_Int] at HM
    rw[←hm] at HM
    unfold mv at HM
    have HP:Hid (addP f.po (zk p c0 c1 c2 c3 1)=wrap64 (pk+wrap64 (c0*mp))):=by
     have q:=HPk.out
     show addP f.po (zk p c0 c1 c2 c3 0++[(c0,moM p 1)])=_
     rw[addP_snoc,←hm,←q]
     rfl
    have HH:Hid (addH f.he (zk p c0 c1 c2 c3 1)=wrap64 (hk2+wrap64 (c0*mh))):=by
     have q:=HHk.out
     show addH f.he (zk p c0 c1 c2 c3 0++[(c0,moM p 1)])=_
     rw[addH_snoc,←hm,←q]
     rfl
    have HNo:Hid (moB p 1=false→addP f.po (zk p c0 c1 c2 c3 1)=pk∧addH f.he (zk p c0 c1 c2 c3 1)=hk2):=fun hb=>by
     have q:=moM_no HD.out hb
     rw[←hm] at q
     have q1:mp=0:=q.1
     have q2:mh=0:=q.2
     rw[HP.out,HH.out,q1,q2]
     simp only[Int.mul_zero]
     have i1:InI pk:=by rw[HPk.out];exact addP_in HIn.out.1 _
     have i2:InI hk2:=by rw[HHk.out];exact addH_in HIn.out.2 _
     have z:wrap64 0=0:=by unfold wrap64;omega
     simp only[z,Int.add_zero]
     exact⟨wrap_in i1,wrap_in i2⟩
    obtain⟨mb,hmb⟩:∃ mb,mb=moB p 1:=⟨_,rfl⟩
    rw[←hmb] at HM HNo
    clear hm hmb HPk HHk
    go_upto_region 12 with (first | (go_at_call 250;refine HM.mono ?_;rintro e w2 ⟨rfl,g2⟩;have HG2:Hid (wr.grownBy w2 none):=g2;clear g2) | fail)
    obtain⟨X,hX⟩:∃ X,X=w2.alloc (.cells #[.int .u8 mi,.string mn,.int .i64 mp,.int .i64 mh] 58):=⟨_,rfl⟩
    have HX:Hid (RkS w X F V R c0 c1 c2 c3 f.ho f.su f.tr pk hk2):=by rw[hX];exact(HS.out.grow HG2.out).grow (World.grownBy_alloc _ _ none)
    have HXm:Hid (X.heap[w2.heap.size]?=some (.cells #[.int .u8 mi,.string mn,.int .i64 mp,.int .i64 mh] 58 (0,0))):=by rw[hX];exact alloc_at _ _ _
    rw[←hX]
    clear hX HM
    obtain⟨G,hG⟩:∃ G,G=w2.heap.size:=⟨_,rfl⟩
    rw[←hG] at HXm ⊢
    clear hG
    cases mb with
    | false =>
     have HX2:Hid (RkS w X F V R c0 c1 c2 c3 f.ho f.su f.tr (addP f.po (zk p c0 c1 c2 c3 1)) (addH f.he (zk p c0 c1 c2 c3 1))):=by
      have q:=HNo.out rfl
      rw[q.1,q.2]
      exact HX
     clear HNo HX HP HH
     go_wp2_with fail
     go_roundw
     case rel=>exact⟨1,by decide,rfl,HX2⟩
     case measure=>simp[intOf]
    | true =>
     clear HNo
     have y3:=block_cell HX.out.s.f 3
     have y4:=block_cell HX.out.s.f 4
     have yf:=fun i=>block_free HX.out.s.f i
     have z2:=block_cell HXm.out 2
     have z3:=block_cell HXm.out 3
     have x0:=block_cell HX.out.v 0
     have HN:Hid (¬F=G):=fun e=>by
      have a:=HX.out.s.f
      have c:=HXm.out
      rw[e,c] at a
      cases a
     have hne:¬F=G:=HN.out
     have hne':¬G=F:=fun e=>HN.out e.symm
     have hnv:¬V=F:=HX.out.ne
     have hnv':¬F=V:=fun e=>HX.out.ne e.symm
     clear HN
     go_wp2_with fail
     go_region
     go_wp2_with fail
     go_region
     go_wp2_with fail
     go_roundw
     case rel=>exact⟨1,by decide,rfl,by rw[HP.out,HH.out];exact((HX.out.set3 _).set4 _).grow (grown_trans (grown_drew _) (grown_drew _))⟩
     case measure=>simp[intOf]
   ·obtain⟨⟨mi,mn,mp,mh⟩,hm⟩:∃ m,m=moM p 2:=⟨_,rfl⟩
    have HM:=rmarkOf_any r v p 2 wr (HB.out.keep HS.out.s.g) (by decide) HD.out
    simp only[Int.cast_ofNat_Int] at HM
    rw[←hm] at HM
    unfold mv at HM
    have HP:Hid (addP f.po (zk p c0 c1 c2 c3 2)=wrap64 (pk+wrap64 (c1*mp))):=by
     have q:=HPk.out
     show addP f.po (zk p c0 c1 c2 c3 1++[(c1,moM p 2)])=_
     rw[addP_snoc,←hm,←q]
     rfl
    have HH:Hid (addH f.he (zk p c0 c1 c2 c3 2)=wrap64 (hk2+wrap64 (c1*mh))):=by
     have q:=HHk.out
     show addH f.he (zk p c0 c1 c2 c3 1++[(c1,moM p 2)])=_
     rw[addH_snoc,←hm,←q]
     rfl
    have HNo:Hid (moB p 2=false→addP f.po (zk p c0 c1 c2 c3 2)=pk∧addH f.he (zk p c0 c1 c2 c3 2)=hk2):=fun hb=>by
     have q:=moM_no HD.out hb
     rw[←hm] at q
     have q1:mp=0:=q.1
     have q2:mh=0:=q.2
     rw[HP.out,HH.out,q1,q2]
     simp only[Int.mul_zero]
     have i1:InI pk:=by rw[HPk.out];exact addP_in HIn.out.1 _
     have i2:InI hk2:=by rw[HHk.out];exact addH_in HIn.out.2 _
     have z:wrap64 0=0:=by unfold wrap64;omega
     simp only[z,Int.add_zero]
     exact⟨wrap_in i1,wrap_in i2⟩
    obtain⟨mb,hmb⟩:∃ mb,mb=moB p 2:=⟨_,rfl⟩
    rw[←hmb] at HM HNo
    clear hm hmb HPk HHk
    go_upto_region 12 with (first | (go_at_call 250;refine HM.mono ?_;rintro e w2 ⟨rfl,g2⟩;have HG2:Hid (wr.grownBy w2 none):=g2;clear g2) | fail)
    obtain⟨X,hX⟩:∃ X,X=w2.alloc (.cells #[.int .u8 mi,.string mn,.int .i64 mp,.int .i64 mh] 58):=⟨_,rfl⟩
    have HX:Hid (RkS w X F V R c0 c1 c2 c3 f.ho f.su f.tr pk hk2):=by rw[hX];exact(HS.out.grow HG2.out).grow (World.grownBy_alloc _ _ none)
    have HXm:Hid (X.heap[w2.heap.size]?=some (.cells #[.int .u8 mi,.string mn,.int .i64 mp,.int .i64 mh] 58 (0,0))):=by rw[hX];exact alloc_at _ _ _
    rw[←hX]
    clear hX HM
    obtain⟨G,hG⟩:∃ G,G=w2.heap.size:=⟨_,rfl⟩
    rw[←hG] at HXm ⊢
    clear hG
    cases mb with
    | false =>
     have HX2:Hid (RkS w X F V R c0 c1 c2 c3 f.ho f.su f.tr (addP f.po (zk p c0 c1 c2 c3 2)) (addH f.he (zk p c0 c1 c2 c3 2))):=by
      have q:=HNo.out rfl
      rw[q.1,q.2]
      exact HX
     clear HNo HX HP HH
     go_wp2_with fail
     go_roundw
     case rel=>exact⟨2,by decide,rfl,HX2⟩
     case measure=>simp[intOf]
    | true =>
     clear HNo
     have y3:=block_cell HX.out.s.f 3
     have y4:=block_cell HX.out.s.f 4
     have yf:=fun i=>block_free HX.out.s.f i
     have z2:=block_cell HXm.out 2
     have z3:=block_cell HXm.out 3
     have x1:=block_cell HX.out.v 1
     have HN:Hid (¬F=G):=fun e=>by
      have a:=HX.out.s.f
      have c:=HXm.out
      rw[e,c] at a
      cases a
     have hne:¬F=G:=HN.out
     have hne':¬G=F:=fun e=>HN.out e.symm
     have hnv:¬V=F:=HX.out.ne
     have hnv':¬F=V:=fun e=>HX.out.ne e.symm
     clear HN
     go_wp2_with fail
     go_region
     go_wp2_with fail
     go_region
     go_wp2_with fail
     go_roundw
     case rel=>exact⟨2,by decide,rfl,by rw[HP.out,HH.out];exact((HX.out.set3 _).set4 _).grow (grown_trans (grown_drew _) (grown_drew _))⟩
     case measure=>simp[intOf]
   ·obtain⟨⟨mi,mn,mp,mh⟩,hm⟩:∃ m,m=moM p 3:=⟨_,rfl⟩
    have HM:=rmarkOf_any r v p 3 wr (HB.out.keep HS.out.s.g) (by decide) HD.out
    simp only[Int.cast_ofNat_Int] at HM
    rw[←hm] at HM
    unfold mv at HM
    have HP:Hid (addP f.po (zk p c0 c1 c2 c3 3)=wrap64 (pk+wrap64 (c2*mp))):=by
     have q:=HPk.out
     show addP f.po (zk p c0 c1 c2 c3 2++[(c2,moM p 3)])=_
     rw[addP_snoc,←hm,←q]
     rfl
    have HH:Hid (addH f.he (zk p c0 c1 c2 c3 3)=wrap64 (hk2+wrap64 (c2*mh))):=by
     have q:=HHk.out
     show addH f.he (zk p c0 c1 c2 c3 2++[(c2,moM p 3)])=_
     rw[addH_snoc,←hm,←q]
     rfl
    have HNo:Hid (moB p 3=false→addP f.po (zk p c0 c1 c2 c3 3)=pk∧addH f.he (zk p c0 c1 c2 c3 3)=hk2):=fun hb=>by
     have q:=moM_no HD.out hb
     rw[←hm] at q
     have q1:mp=0:=q.1
     have q2:mh=0:=q.2
     rw[HP.out,HH.out,q1,q2]
     simp only[Int.mul_zero]
     have i1:InI pk:=by rw[HPk.out];exact addP_in HIn.out.1 _
     have i2:InI hk2:=by rw[HHk.out];exact addH_in HIn.out.2 _
     have z:wrap64 0=0:=by unfold wrap64;omega
     simp only[z,Int.add_zero]
     exact⟨wrap_in i1,wrap_in i2⟩
    obtain⟨mb,hmb⟩:∃ mb,mb=moB p 3:=⟨_,rfl⟩
    rw[←hmb] at HM HNo
    clear hm hmb HPk HHk
    go_upto_region 12 with (first | (go_at_call 250;refine HM.mono ?_;rintro e w2 ⟨rfl,g2⟩;have HG2:Hid (wr.grownBy w2 none):=g2;clear g2) | fail)
    obtain⟨X,hX⟩:∃ X,X=w2.alloc (.cells #[.int .u8 mi,.string mn,.int .i64 mp,.int .i64 mh] 58):=⟨_,rfl⟩
    have HX:Hid (RkS w X F V R c0 c1 c2 c3 f.ho f.su f.tr pk hk2):=by rw[hX];exact(HS.out.grow HG2.out).grow (World.grownBy_alloc _ _ none)
    have HXm:Hid (X.heap[w2.heap.size]?=some (.cells #[.int .u8 mi,.string mn,.int .i64 mp,.int .i64 mh] 58 (0,0))):=by rw[hX];exact alloc_at _ _ _
    rw[←hX]
    clear hX HM
    obtain⟨G,hG⟩:∃ G,G=w2.heap.size:=⟨_,rfl⟩
    rw[←hG] at HXm ⊢
    clear hG
    cases mb with
    | false =>
     have HX2:Hid (RkS w X F V R c0 c1 c2 c3 f.ho f.su f.tr (addP f.po (zk p c0 c1 c2 c3 3)) (addH f.he (zk p c0 c1 c2 c3 3))):=by
      have q:=HNo.out rfl
      rw[q.1,q.2]
      exact HX
     clear HNo HX HP HH
     go_wp2_with fail
     go_roundw
     case rel=>exact⟨3,by decide,rfl,HX2⟩
     case measure=>simp[intOf]
    | true =>
     clear HNo
     have y3:=block_cell HX.out.s.f 3
     have y4:=block_cell HX.out.s.f 4
     have yf:=fun i=>block_free HX.out.s.f i
     have z2:=block_cell HXm.out 2
     have z3:=block_cell HXm.out 3
     have x2:=block_cell HX.out.v 2
     have HN:Hid (¬F=G):=fun e=>by
      have a:=HX.out.s.f
      have c:=HXm.out
      rw[e,c] at a
      cases a
     have hne:¬F=G:=HN.out
     have hne':¬G=F:=fun e=>HN.out e.symm
     have hnv:¬V=F:=HX.out.ne
     have hnv':¬F=V:=fun e=>HX.out.ne e.symm
     clear HN
     go_wp2_with fail
     go_region
     go_wp2_with fail
     go_region
     go_wp2_with fail
     go_roundw
     case rel=>exact⟨3,by decide,rfl,by rw[HP.out,HH.out];exact((HX.out.set3 _).set4 _).grow (grown_trans (grown_drew _) (grown_drew _))⟩
     case measure=>simp[intOf]
   ·obtain⟨⟨mi,mn,mp,mh⟩,hm⟩:∃ m,m=moM p 4:=⟨_,rfl⟩
    have HM:=rmarkOf_any r v p 4 wr (HB.out.keep HS.out.s.g) (by decide) HD.out
    simp only[Int.cast_ofNat_Int] at HM
    rw[←hm] at HM
    unfold mv at HM
    have HP:Hid (addP f.po (zk p c0 c1 c2 c3 4)=wrap64 (pk+wrap64 (c3*mp))):=by
     have q:=HPk.out
     show addP f.po (zk p c0 c1 c2 c3 3++[(c3,moM p 4)])=_
     rw[addP_snoc,←hm,←q]
     rfl
    have HH:Hid (addH f.he (zk p c0 c1 c2 c3 4)=wrap64 (hk2+wrap64 (c3*mh))):=by
     have q:=HHk.out
     show addH f.he (zk p c0 c1 c2 c3 3++[(c3,moM p 4)])=_
     rw[addH_snoc,←hm,←q]
     rfl
    have HNo:Hid (moB p 4=false→addP f.po (zk p c0 c1 c2 c3 4)=pk∧addH f.he (zk p c0 c1 c2 c3 4)=hk2):=fun hb=>by
     have q:=moM_no HD.out hb
     rw[←hm] at q
     have q1:mp=0:=q.1
     have q2:mh=0:=q.2
     rw[HP.out,HH.out,q1,q2]
     simp only[Int.mul_zero]
     have i1:InI pk:=by rw[HPk.out];exact addP_in HIn.out.1 _
     have i2:InI hk2:=by rw[HHk.out];exact addH_in HIn.out.2 _
     have z:wrap64 0=0:=by unfold wrap64;omega
     simp only[z,Int.add_zero]
     exact⟨wrap_in i1,wrap_in i2⟩
    obtain⟨mb,hmb⟩:∃ mb,mb=moB p 4:=⟨_,rfl⟩
    rw[←hmb] at HM HNo
    clear hm hmb HPk HHk
    go_upto_region 12 with (first | (go_at_call 250;refine HM.mono ?_;rintro e w2 ⟨rfl,g2⟩;have HG2:Hid (wr.grownBy w2 none):=g2;clear g2) | fail)
    obtain⟨X,hX⟩:∃ X,X=w2.alloc (.cells #[.int .u8 mi,.string mn,.int .i64 mp,.int .i64 mh] 58):=⟨_,rfl⟩
    have HX:Hid (RkS w X F V R c0 c1 c2 c3 f.ho f.su f.tr pk hk2):=by rw[hX];exact(HS.out.grow HG2.out).grow (World.grownBy_alloc _ _ none)
    have HXm:Hid (X.heap[w2.heap.size]?=some (.cells #[.int .u8 mi,.string mn,.int .i64 mp,.int .i64 mh] 58 (0,0))):=by rw[hX];exact alloc_at _ _ _
    rw[←hX]
    clear hX HM
    obtain⟨G,hG⟩:∃ G,G=w2.heap.size:=⟨_,rfl⟩
    rw[←hG] at HXm ⊢
    clear hG
    cases mb with
    | false =>
     have HX2:Hid (RkS w X F V R c0 c1 c2 c3 f.ho f.su f.tr (addP f.po (zk p c0 c1 c2 c3 4)) (addH f.he (zk p c0 c1 c2 c3 4))):=by
      have q:=HNo.out rfl
      rw[q.1,q.2]
      exact HX
     clear HNo HX HP HH
     go_wp2_with fail
     go_roundw
     case rel=>exact⟨4,by decide,rfl,HX2⟩
     case measure=>simp[intOf]
    | true =>
     clear HNo
     have y3:=block_cell HX.out.s.f 3
     have y4:=block_cell HX.out.s.f 4
     have yf:=fun i=>block_free HX.out.s.f i
     have z2:=block_cell HXm.out 2
     have z3:=block_cell HXm.out 3
     have x3:=block_cell HX.out.v 3
     have HN:Hid (¬F=G):=fun e=>by
      have a:=HX.out.s.f
      have c:=HXm.out
      rw[e,c] at a
      cases a
     have hne:¬F=G:=HN.out
     have hne':¬G=F:=fun e=>HN.out e.symm
     have hnv:¬V=F:=HX.out.ne
     have hnv':¬F=V:=fun e=>HX.out.ne e.symm
     clear HN
     go_wp2_with fail
     go_region
     go_wp2_with fail
     go_region
     go_wp2_with fail
     go_roundw
     case rel=>exact⟨4,by decide,rfl,by rw[HP.out,HH.out];exact((HX.out.set3 _).set4 _).grow (grown_trans (grown_drew _) (grown_drew _))⟩
     case measure=>simp[intOf]
   ·have y0:=block_cell HS.out.s.f 0
    have y1:=block_cell HS.out.s.f 1
    have y2:=block_cell HS.out.s.f 2
    have y3:=block_cell HS.out.s.f 3
    have y4:=block_cell HS.out.s.f 4
    have yf:=fun i=>block_free HS.out.s.f i
    have r0:=block_cell HS.out.s.r 0
    have r1:=block_cell HS.out.s.r 1
    have r2:=block_cell HS.out.s.r 2
    have r3:=block_cell HS.out.s.r 3
    have r4:=block_cell HS.out.s.r 4
    have rf:=fun i=>block_free HS.out.s.r i
    have hne:¬F=R:=HS.out.s.ne
    have hne':¬R=F:=fun e=>HS.out.s.ne e.symm
    by_cases hneg:pk<0
    ·have HE:Hid (mkdF p f c0 c1 c2 c3=⟨f.ho,f.su,f.tr,0,hk2⟩):=by
      show mkdF p f c0 c1 c2 c3=_
      unfold mkdF low0
      rw[show addP f.po (zs p c0 c1 c2 c3)=pk from HPk.out.symm,if_pos hneg,HHk.out]
      rfl
     clear HPk HHk
     go_wp2
     refine bodyPost_ret (v:=.tuple #[fev ⟨f.ho,f.su,f.tr,0,hk2⟩,.int .i64 0]) (by simp[results,Tryz.results183,go_sem,fev,r0,r1,r2,r3,r4]) rfl ⟨by rw[HE.out];rfl,?_⟩
     exact grown_own (grown_own HS.out.s.g (grown_set _ _ _ _) (fun y e=>by cases e;exact HS.out.s.hF)) (((((grown_set _ _ _ _).trans (grown_set _ _ _ _)).trans (grown_set _ _ _ _)).trans (grown_set _ _ _ _)).trans (grown_set _ _ _ _)) (fun y e=>by cases e;exact HS.out.s.hR)
    ·have HE:Hid (mkdF p f c0 c1 c2 c3=⟨f.ho,f.su,f.tr,pk,hk2⟩):=by
      show mkdF p f c0 c1 c2 c3=_
      unfold mkdF low0
      rw[show addP f.po (zs p c0 c1 c2 c3)=pk from HPk.out.symm,if_neg hneg,HHk.out]
      rfl
     clear HPk HHk
     go_wp2
     refine bodyPost_ret (v:=.tuple #[fev ⟨f.ho,f.su,f.tr,pk,hk2⟩,.int .i64 0]) (by simp[results,Tryz.results183,go_sem,fev,r0,r1,r2,r3,r4]) rfl ⟨by rw[HE.out];rfl,?_⟩
     exact grown_own HS.out.s.g (((((grown_set _ _ _ _).trans (grown_set _ _ _ _)).trans (grown_set _ _ _ _)).trans (grown_set _ _ _ _)).trans (grown_set _ _ _ _)) (fun y e=>by cases e;exact HS.out.s.hR)
end Go.Proofs.YthfjgpjcepmnmaaGreat
