/-

-/
import Derived.Test.YtjmepebbcnhalaaGreatZ16
namespace Go.Proofs.YtjmepebbcnhalaaGreat
set_option maxRecDepth 100000
set_option maxHeartbeats 8000000
open Go.RowKit
variable {w wr:World} {a d:Int}

structure RkS (w wr:World) (F V R:Nat) (c0 c1 c2 c3 a b c d e:Int):Prop where
 s:MkS w wr F R a b c d e
 v:wr.heap[V]?=some (.cells #[.int .i64 c0,.int .i64 c1,.int .i64 c2,.int .i64 c3] 118 (0,0))
theorem RkS.grow {w2:World} {F V R:Nat} {c0 c1 c2 c3 b c e:Int} (h:RkS w wr F V R c0 c1 c2 c3 a b c d e) (g:wr.grownBy w2 none):RkS w w2 F V R c0 c1 c2 c3 a b c d e:=⟨h.s.grow g,ag g h.v (by simp)⟩
theorem RkS.ne {F V R:Nat} {c0 c1 c2 c3 b c e:Int} (h:RkS w wr F V R c0 c1 c2 c3 a b c d e):¬V=F:=fun q=>by
 have x:=h.s.f;have y:=h.v;rw[q,x] at y;cases y
theorem RkS.set3 {F V R:Nat} {c0 c1 c2 c3 b c e:Int} (h:RkS w wr F V R c0 c1 c2 c3 a b c d e) (x:Int):RkS w (wr.setCell ⟨F,3,none⟩ (.int .i64 x)) F V R c0 c1 c2 c3 a b c x e:=⟨h.s.set3 x,ag (al wr F 3 (.int .i64 x)) h.v (fun q=>by injection q with q;exact h.ne q)⟩
theorem RkS.set4 {F V R:Nat} {c0 c1 c2 c3 b c e:Int} (h:RkS w wr F V R c0 c1 c2 c3 a b c d e) (x:Int):RkS w (wr.setCell ⟨F,4,none⟩ (.int .i64 x)) F V R c0 c1 c2 c3 a b c d x:=⟨h.s.set4 x,ag (al wr F 4 (.int .i64 x)) h.v (fun q=>by injection q with q;exact h.ne q)⟩
theorem RkS.drew {F V R:Nat} {c0 c1 c2 c3 b c e:Int} (h:RkS w wr F V R c0 c1 c2 c3 a b c d e) (n:Nat):RkS w (wr.drewN n) F V R c0 c1 c2 c3 a b c d e:=h.grow (aA wr n none)
theorem tv (r:Nat) (v:Value) (p:Pl) (f:Fe) (c0 c1 c2 c3:Int) (w:World) (B:RJ w r v p) (hD:MkD p) (hc:ji c0 c1 c2 c3=true) (hI:InI f.po∧InI f.he):Calls Tryz.prog 159 #[.pointer (some ⟨r,0,none⟩),fev f,.agg #[.int .i64 c0,.int .i64 c1,.int .i64 c2,.int .i64 c3]] w fun e w'=>e=.returned (.tuple #[fev (tu p f c0 c1 c2 c3),.int .i64 0])∧w.grownBy w' none:=by
 obtain⟨W,hW⟩:=Qe (((w.alloc (.cells (fcs f) 122)).alloc (.cells #[.int .i64 c0,.int .i64 c1,.int .i64 c2,.int .i64 c3] 118)).alloc (.cells #[.int .i64 0,.int .u8 0,.int .u16 0,.int .i64 0,.int .i64 0] 122))
 have HS0:QH (MkS w W w.heap.size (w.heap.size+1+1) f.ho f.su f.tr f.po f.he):=by
  rw[hW];refine⟨am (am QG _) _,?_,?_,Qj _,by omega,by omega⟩
  ·exact ag QG (ag QG (aj w _ _) (by simp)) (by simp)
  ·exact Ac _ _ _ _ _
 have HA4:QH (W.heap[w.heap.size+1]?=some (.cells #[.int .i64 c0,.int .i64 c1,.int .i64 c2,.int .i64 c3] 118 (0,0))):=by
  rw[hW];exact ag QG (qu _ _ _ _) (by simp)
 have HN:=bA r v p W (B.keep HS0.o.g);have HB:QH (RJ w r v p):=B;have HD:QH (MkD p):=hD;have HIn:QH (InI f.po∧InI f.he):=hI;clear hD hI;unfold fcs at hW;unfold fev;clear B;go_enter Tryz.func159,Tryz.ntmps159;go_upto_region 1 with fail;rw[←hW];clear hW;obtain⟨F,hF⟩:=Qe (w.heap.size);rw[←hF] at HS0 HA4 ⊢;obtain⟨V,hV⟩:=Qe (F+1);simp only[←hV] at HS0 HA4 ⊢;obtain⟨R,hR⟩:=Qe (V+1);simp only[←hR] at HS0 ⊢;clear hF hR hV;go_wp2_with fail;refine HN.mono ?_;rintro e W1 ⟨rfl,h1⟩;obtain rfl:W=W1:=h1.symm;obtain⟨W1,hW1⟩:=Qe (W);rw[←hW1] at HS0 HA4 ⊢;have HS1:QH (RkS w W1 F V R c0 c1 c2 c3 f.ho f.su f.tr f.po f.he):=⟨HS0.o,HA4.o⟩
 clear HN HS0 HA4 hW1;go_wp2;go_loopw [8] (fun x wr=>∃ k:Nat,k≤4∧x=.int .i64 (k:Int)∧QH (wr=W1∧MlR c0 c1 c2 c3 k)) (fun x _=>4 - (intOf x).toNat)
 case atStart=>exact⟨0,by decide,rfl,rfl,fun h=>absurd h (by decide),fun h=>absurd h (by decide),fun h=>absurd h (by decide),fun h=>absurd h (by decide)⟩
 case round =>
  obtain⟨k,hk,rfl,HR⟩:=hrel;obtain⟨rfl,hK⟩:=HR.o;have HK:QH (MlR c0 c1 c2 c3 k):=hK;clear hK HR
  rcases (show k=0∨k=1∨k=2∨k=3∨k=4 from by omega) with rfl | rfl | rfl | rfl | rfl
  ·have x0:=ae HS1.o.v 0;cases h0:okc c0 with
   | false =>
    exact absurd hc (by unfold ji;simp[h0])
   | true =>
    have HK2:QH (MlR c0 c1 c2 c3 1):=(by have q:=HK.o;have r:=h0;exact⟨fun _=>r,fun h=>absurd h (by decide),fun h=>absurd h (by decide),fun h=>absurd h (by decide)⟩);have l:=ik h0;have l1:¬c0<0:=(by omega);have l2:¬99<c0:=(by omega);clear h0 HK l;go_wp2;go_roundw
    case rel=>exact⟨1,by decide,rfl,by first | exact⟨rfl,HK2.o⟩ | exact⟨trivial,HK2.o⟩⟩
    case measure=>simp[intOf]
  ·have x0:=ae HS1.o.v 1;cases h1:okc c1 with
   | false =>
    exact absurd hc (by unfold ji;simp[h1])
   | true =>
    have HK2:QH (MlR c0 c1 c2 c3 2):=(by have q:=HK.o;have r:=h1;exact⟨fun _=>q.1 (by decide),fun _=>r,fun h=>absurd h (by decide),fun h=>absurd h (by decide)⟩);have l:=ik h1;have l1:¬c1<0:=(by omega);have l2:¬99<c1:=(by omega);clear h1 HK l;go_wp2;go_roundw
    case rel=>exact⟨2,by decide,rfl,by first | exact⟨rfl,HK2.o⟩ | exact⟨trivial,HK2.o⟩⟩
    case measure=>simp[intOf]
  ·have x0:=ae HS1.o.v 2;cases h2:okc c2 with
   | false =>
    exact absurd hc (by unfold ji;simp[h2])
   | true =>
    have HK2:QH (MlR c0 c1 c2 c3 3):=(by have q:=HK.o;have r:=h2;exact⟨fun _=>q.1 (by decide),fun _=>q.2.1 (by decide),fun _=>r,fun h=>absurd h (by decide)⟩);have l:=ik h2;have l1:¬c2<0:=(by omega);have l2:¬99<c2:=(by omega);clear h2 HK l;go_wp2;go_roundw
    case rel=>exact⟨3,by decide,rfl,by first | exact⟨rfl,HK2.o⟩ | exact⟨trivial,HK2.o⟩⟩
    case measure=>simp[intOf]
  ·have x0:=ae HS1.o.v 3;cases h3:okc c3 with
   | false =>
    exact absurd hc (by unfold ji;simp[h3])
   | true =>
    have HK2:QH (MlR c0 c1 c2 c3 4):=(by have q:=HK.o;have r:=h3;exact⟨fun _=>q.1 (by decide),fun _=>q.2.1 (by decide),fun _=>q.2.2.1 (by decide),fun _=>r⟩);have l:=ik h3;have l1:¬c3<0:=(by omega);have l2:¬99<c3:=(by omega);clear h3 HK l;go_wp2;go_roundw
    case rel=>exact⟨4,by decide,rfl,by first | exact⟨rfl,HK2.o⟩ | exact⟨trivial,HK2.o⟩⟩
    case measure=>simp[intOf]
  ·clear HK;clear hc;obtain⟨wz,hwz⟩:=Qe (wr);subst hwz;rw[show ((4:Nat):Int)=(4:Int) from rfl];go_wp2_with fail;go_loopw [9,10,11] (fun x _ _ wr=>∃ k:Nat,k≤4∧x=.int .i64 (k:Int)∧QH (RkS w wr F V R c0 c1 c2 c3 f.ho f.su f.tr (fZ f.po (zk p c0 c1 c2 c3 k)) (gu f.he (zk p c0 c1 c2 c3 k)))) (fun x _ _ _=>4 - (intOf x).toNat)
   case atStart=>exact⟨0,by decide,rfl,HS1⟩
   case round =>
   obtain⟨k,hk,rfl,HS⟩:=hrel;clear HS1;obtain⟨pk,hpk⟩:=Qe (fZ f.po (zk p c0 c1 c2 c3 k));obtain⟨hk2,hhk⟩:=Qe (gu f.he (zk p c0 c1 c2 c3 k));rw[←hpk,←hhk] at HS;have HPk:QH (pk=fZ f.po (zk p c0 c1 c2 c3 k)):=hpk;have HHk:QH (hk2=gu f.he (zk p c0 c1 c2 c3 k)):=hhk;clear hpk hhk
   rcases (show k=0∨k=1∨k=2∨k=3∨k=4 from by omega) with rfl | rfl | rfl | rfl | rfl
   ·obtain⟨⟨mi,mn,mp,mh⟩,hm⟩:∃ m,m=moM p 1:=⟨_,rfl⟩
    have HM:=i7 r v p 1 wr (HB.o.keep HS.o.s.g) (by decide) HD.o;simp only[Int.cast_ofNat_Int] at HM;rw[←hm] at HM;unfold mv at HM
    have HP:QH (fZ f.po (zk p c0 c1 c2 c3 1)=wrap64 (pk+wrap64 (c0*mp))):=by
     have q:=HPk.o;show fZ f.po (zk p c0 c1 c2 c3 0++[(c0,moM p 1)])=_;rw[jK,←hm,←q];rfl
    have HH:QH (gu f.he (zk p c0 c1 c2 c3 1)=wrap64 (hk2+wrap64 (c0*mh))):=by
     have q:=HHk.o;show gu f.he (zk p c0 c1 c2 c3 0++[(c0,moM p 1)])=_;rw[jC,←hm,←q];rfl
    have HNo:QH (moB p 1=false→fZ f.po (zk p c0 c1 c2 c3 1)=pk∧gu f.he (zk p c0 c1 c2 c3 1)=hk2):=fun hb=>by
     have q:=rD HD.o hb;rw[←hm] at q;have q1:mp=0:=q.1;have q2:mh=0:=q.2;rw[HP.o,HH.o,q1,q2];simp only[Int.mul_zero];have i1:InI pk:=(by rw[HPk.o];exact kH HIn.o.1 _);have i2:InI hk2:=(by rw[HHk.o];exact kM HIn.o.2 _);have z:wrap64 0=0:=(by unfold wrap64;omega);simp only[z,Int.add_zero];exact⟨il i1,il i2⟩
    obtain⟨mb,hmb⟩:=Qe (moB p 1);rw[←hmb] at HM HNo;clear hm hmb HPk HHk;go_upto_region 12 with (first | (go_at_call 226;refine HM.mono ?_;rintro e w2 ⟨rfl,g2⟩;have HG2:QH (wr.grownBy w2 none):=g2;clear g2) | fail)
    obtain⟨X,hX⟩:=Qe (w2.alloc (.cells #[.int .u8 mi,.string mn,.int .i64 mp,.int .i64 mh] 115));have HX:QH (RkS w X F V R c0 c1 c2 c3 f.ho f.su f.tr pk hk2):=(by rw[hX];exact(HS.o.grow HG2.o).grow QG);have HXm:QH (X.heap[w2.heap.size]?=some (.cells #[.int .u8 mi,.string mn,.int .i64 mp,.int .i64 mh] 115 (0,0))):=(by rw[hX];exact aj _ _ _);rw[←hX];clear hX HM;obtain⟨G,hG⟩:=Qe (w2.heap.size);rw[←hG] at HXm ⊢;clear hG;cases mb with
    | false =>
     have HX2:QH (RkS w X F V R c0 c1 c2 c3 f.ho f.su f.tr (fZ f.po (zk p c0 c1 c2 c3 1)) (gu f.he (zk p c0 c1 c2 c3 1))):=by
      have q:=HNo.o rfl;rw[q.1,q.2];exact HX
     clear HNo HX HP HH;go_wp2_with fail;go_roundw
     case rel=>exact⟨1,by decide,rfl,HX2⟩
     case measure=>simp[intOf]
    | true =>
     clear HNo;have y3:=ae HX.o.s.f 3;have y4:=ae HX.o.s.f 4;have yf:=fun i=>aq HX.o.s.f i;have z2:=ae HXm.o 2;have z3:=ae HXm.o 3;have x0:=ae HX.o.v 0
     have HN:QH (¬F=G):=fun e=>by
      have a:=HX.o.s.f;have c:=HXm.o;rw[e,c] at a;cases a
     have hne:¬F=G:=HN.o;have hne':¬G=F:=fun e=>HN.o e.symm;have hnv:¬V=F:=HX.o.ne;have hnv':¬F=V:=fun e=>HX.o.ne e.symm;clear HN;go_wp2_with fail;go_region;go_wp2_with fail;go_region;go_wp2_with fail;go_roundw
     case rel=>exact⟨1,by decide,rfl,by rw[HP.o,HH.o];exact((HX.o.set3 _).set4 _).grow (aa (ai _) (ai _))⟩
     case measure=>simp[intOf]
   ·obtain⟨⟨mi,mn,mp,mh⟩,hm⟩:∃ m,m=moM p 2:=⟨_,rfl⟩
    have HM:=i7 r v p 2 wr (HB.o.keep HS.o.s.g) (by decide) HD.o;simp only[Int.cast_ofNat_Int] at HM;rw[←hm] at HM;unfold mv at HM
    have HP:QH (fZ f.po (zk p c0 c1 c2 c3 2)=wrap64 (pk+wrap64 (c1*mp))):=by
     have q:=HPk.o;show fZ f.po (zk p c0 c1 c2 c3 1++[(c1,moM p 2)])=_;rw[jK,←hm,←q];rfl
    have HH:QH (gu f.he (zk p c0 c1 c2 c3 2)=wrap64 (hk2+wrap64 (c1*mh))):=by
     have q:=HHk.o;show gu f.he (zk p c0 c1 c2 c3 1++[(c1,moM p 2)])=_;rw[jC,←hm,←q];rfl
    have HNo:QH (moB p 2=false→fZ f.po (zk p c0 c1 c2 c3 2)=pk∧gu f.he (zk p c0 c1 c2 c3 2)=hk2):=fun hb=>by
     have q:=rD HD.o hb;rw[←hm] at q;have q1:mp=0:=q.1;have q2:mh=0:=q.2;rw[HP.o,HH.o,q1,q2];simp only[Int.mul_zero];have i1:InI pk:=(by rw[HPk.o];exact kH HIn.o.1 _);have i2:InI hk2:=(by rw[HHk.o];exact kM HIn.o.2 _);have z:wrap64 0=0:=(by unfold wrap64;omega);simp only[z,Int.add_zero];exact⟨il i1,il i2⟩
    obtain⟨mb,hmb⟩:=Qe (moB p 2);rw[←hmb] at HM HNo;clear hm hmb HPk HHk;go_upto_region 12 with (first | (go_at_call 226;refine HM.mono ?_;rintro e w2 ⟨rfl,g2⟩;have HG2:QH (wr.grownBy w2 none):=g2;clear g2) | fail)
    obtain⟨X,hX⟩:=Qe (w2.alloc (.cells #[.int .u8 mi,.string mn,.int .i64 mp,.int .i64 mh] 115));have HX:QH (RkS w X F V R c0 c1 c2 c3 f.ho f.su f.tr pk hk2):=(by rw[hX];exact(HS.o.grow HG2.o).grow QG);have HXm:QH (X.heap[w2.heap.size]?=some (.cells #[.int .u8 mi,.string mn,.int .i64 mp,.int .i64 mh] 115 (0,0))):=(by rw[hX];exact aj _ _ _);rw[←hX];clear hX HM;obtain⟨G,hG⟩:=Qe (w2.heap.size);rw[←hG] at HXm ⊢;clear hG;cases mb with
    | false =>
     have HX2:QH (RkS w X F V R c0 c1 c2 c3 f.ho f.su f.tr (fZ f.po (zk p c0 c1 c2 c3 2)) (gu f.he (zk p c0 c1 c2 c3 2))):=by
      have q:=HNo.o rfl;rw[q.1,q.2];exact HX
     clear HNo HX HP HH;go_wp2_with fail;go_roundw
     case rel=>exact⟨2,by decide,rfl,HX2⟩
     case measure=>simp[intOf]
    | true =>
     clear HNo;have y3:=ae HX.o.s.f 3;have y4:=ae HX.o.s.f 4;have yf:=fun i=>aq HX.o.s.f i;have z2:=ae HXm.o 2;have z3:=ae HXm.o 3;have x1:=ae HX.o.v 1
     have HN:QH (¬F=G):=fun e=>by
      have a:=HX.o.s.f;have c:=HXm.o;rw[e,c] at a;cases a
     have hne:¬F=G:=HN.o;have hne':¬G=F:=fun e=>HN.o e.symm;have hnv:¬V=F:=HX.o.ne;have hnv':¬F=V:=fun e=>HX.o.ne e.symm;clear HN;go_wp2_with fail;go_region;go_wp2_with fail;go_region;go_wp2_with fail;go_roundw
     case rel=>exact⟨2,by decide,rfl,by rw[HP.o,HH.o];exact((HX.o.set3 _).set4 _).grow (aa (ai _) (ai _))⟩
     case measure=>simp[intOf]
   ·obtain⟨⟨mi,mn,mp,mh⟩,hm⟩:∃ m,m=moM p 3:=⟨_,rfl⟩
    have HM:=i7 r v p 3 wr (HB.o.keep HS.o.s.g) (by decide) HD.o;simp only[Int.cast_ofNat_Int] at HM;rw[←hm] at HM;unfold mv at HM
    have HP:QH (fZ f.po (zk p c0 c1 c2 c3 3)=wrap64 (pk+wrap64 (c2*mp))):=by
     have q:=HPk.o;show fZ f.po (zk p c0 c1 c2 c3 2++[(c2,moM p 3)])=_;rw[jK,←hm,←q];rfl
    have HH:QH (gu f.he (zk p c0 c1 c2 c3 3)=wrap64 (hk2+wrap64 (c2*mh))):=by
     have q:=HHk.o;show gu f.he (zk p c0 c1 c2 c3 2++[(c2,moM p 3)])=_;rw[jC,←hm,←q];rfl
    have HNo:QH (moB p 3=false→fZ f.po (zk p c0 c1 c2 c3 3)=pk∧gu f.he (zk p c0 c1 c2 c3 3)=hk2):=fun hb=>by
     have q:=rD HD.o hb;rw[←hm] at q;have q1:mp=0:=q.1;have q2:mh=0:=q.2;rw[HP.o,HH.o,q1,q2];simp only[Int.mul_zero];have i1:InI pk:=(by rw[HPk.o];exact kH HIn.o.1 _);have i2:InI hk2:=(by rw[HHk.o];exact kM HIn.o.2 _);have z:wrap64 0=0:=(by unfold wrap64;omega);simp only[z,Int.add_zero];exact⟨il i1,il i2⟩
    obtain⟨mb,hmb⟩:=Qe (moB p 3);rw[←hmb] at HM HNo;clear hm hmb HPk HHk;go_upto_region 12 with (first | (go_at_call 226;refine HM.mono ?_;rintro e w2 ⟨rfl,g2⟩;have HG2:QH (wr.grownBy w2 none):=g2;clear g2) | fail)
    obtain⟨X,hX⟩:=Qe (w2.alloc (.cells #[.int .u8 mi,.string mn,.int .i64 mp,.int .i64 mh] 115));have HX:QH (RkS w X F V R c0 c1 c2 c3 f.ho f.su f.tr pk hk2):=(by rw[hX];exact(HS.o.grow HG2.o).grow QG);have HXm:QH (X.heap[w2.heap.size]?=some (.cells #[.int .u8 mi,.string mn,.int .i64 mp,.int .i64 mh] 115 (0,0))):=(by rw[hX];exact aj _ _ _);rw[←hX];clear hX HM;obtain⟨G,hG⟩:=Qe (w2.heap.size);rw[←hG] at HXm ⊢;clear hG;cases mb with
    | false =>
     have HX2:QH (RkS w X F V R c0 c1 c2 c3 f.ho f.su f.tr (fZ f.po (zk p c0 c1 c2 c3 3)) (gu f.he (zk p c0 c1 c2 c3 3))):=by
      have q:=HNo.o rfl;rw[q.1,q.2];exact HX
     clear HNo HX HP HH;go_wp2_with fail;go_roundw
     case rel=>exact⟨3,by decide,rfl,HX2⟩
     case measure=>simp[intOf]
    | true =>
     clear HNo;have y3:=ae HX.o.s.f 3;have y4:=ae HX.o.s.f 4;have yf:=fun i=>aq HX.o.s.f i;have z2:=ae HXm.o 2;have z3:=ae HXm.o 3;have x2:=ae HX.o.v 2
     have HN:QH (¬F=G):=fun e=>by
      have a:=HX.o.s.f;have c:=HXm.o;rw[e,c] at a;cases a
     have hne:¬F=G:=HN.o;have hne':¬G=F:=fun e=>HN.o e.symm;have hnv:¬V=F:=HX.o.ne;have hnv':¬F=V:=fun e=>HX.o.ne e.symm;clear HN;go_wp2_with fail;go_region;go_wp2_with fail;go_region;go_wp2_with fail;go_roundw
     case rel=>exact⟨3,by decide,rfl,by rw[HP.o,HH.o];exact((HX.o.set3 _).set4 _).grow (aa (ai _) (ai _))⟩
     case measure=>simp[intOf]
   ·obtain⟨⟨mi,mn,mp,mh⟩,hm⟩:∃ m,m=moM p 4:=⟨_,rfl⟩
    have HM:=i7 r v p 4 wr (HB.o.keep HS.o.s.g) (by decide) HD.o;simp only[Int.cast_ofNat_Int] at HM;rw[←hm] at HM;unfold mv at HM
    have HP:QH (fZ f.po (zk p c0 c1 c2 c3 4)=wrap64 (pk+wrap64 (c3*mp))):=by
     have q:=HPk.o;show fZ f.po (zk p c0 c1 c2 c3 3++[(c3,moM p 4)])=_;rw[jK,←hm,←q];rfl
    have HH:QH (gu f.he (zk p c0 c1 c2 c3 4)=wrap64 (hk2+wrap64 (c3*mh))):=by
     have q:=HHk.o;show gu f.he (zk p c0 c1 c2 c3 3++[(c3,moM p 4)])=_;rw[jC,←hm,←q];rfl
    have HNo:QH (moB p 4=false→fZ f.po (zk p c0 c1 c2 c3 4)=pk∧gu f.he (zk p c0 c1 c2 c3 4)=hk2):=fun hb=>by
     have q:=rD HD.o hb;rw[←hm] at q;have q1:mp=0:=q.1;have q2:mh=0:=q.2;rw[HP.o,HH.o,q1,q2];simp only[Int.mul_zero];have i1:InI pk:=(by rw[HPk.o];exact kH HIn.o.1 _);have i2:InI hk2:=(by rw[HHk.o];exact kM HIn.o.2 _);have z:wrap64 0=0:=(by unfold wrap64;omega);simp only[z,Int.add_zero];exact⟨il i1,il i2⟩
    obtain⟨mb,hmb⟩:=Qe (moB p 4);rw[←hmb] at HM HNo;clear hm hmb HPk HHk;go_upto_region 12 with (first | (go_at_call 226;refine HM.mono ?_;rintro e w2 ⟨rfl,g2⟩;have HG2:QH (wr.grownBy w2 none):=g2;clear g2) | fail)
    obtain⟨X,hX⟩:=Qe (w2.alloc (.cells #[.int .u8 mi,.string mn,.int .i64 mp,.int .i64 mh] 115));have HX:QH (RkS w X F V R c0 c1 c2 c3 f.ho f.su f.tr pk hk2):=(by rw[hX];exact(HS.o.grow HG2.o).grow QG);have HXm:QH (X.heap[w2.heap.size]?=some (.cells #[.int .u8 mi,.string mn,.int .i64 mp,.int .i64 mh] 115 (0,0))):=(by rw[hX];exact aj _ _ _);rw[←hX];clear hX HM;obtain⟨G,hG⟩:=Qe (w2.heap.size);rw[←hG] at HXm ⊢;clear hG;cases mb with
    | false =>
     have HX2:QH (RkS w X F V R c0 c1 c2 c3 f.ho f.su f.tr (fZ f.po (zk p c0 c1 c2 c3 4)) (gu f.he (zk p c0 c1 c2 c3 4))):=by
      have q:=HNo.o rfl;rw[q.1,q.2];exact HX
     clear HNo HX HP HH;go_wp2_with fail;go_roundw
     case rel=>exact⟨4,by decide,rfl,HX2⟩
     case measure=>simp[intOf]
    | true =>
     clear HNo;have y3:=ae HX.o.s.f 3;have y4:=ae HX.o.s.f 4;have yf:=fun i=>aq HX.o.s.f i;have z2:=ae HXm.o 2;have z3:=ae HXm.o 3;have x3:=ae HX.o.v 3
     have HN:QH (¬F=G):=fun e=>by
      have a:=HX.o.s.f;have c:=HXm.o;rw[e,c] at a;cases a
     have hne:¬F=G:=HN.o;have hne':¬G=F:=fun e=>HN.o e.symm;have hnv:¬V=F:=HX.o.ne;have hnv':¬F=V:=fun e=>HX.o.ne e.symm;clear HN;go_wp2_with fail;go_region;go_wp2_with fail;go_region;go_wp2_with fail;go_roundw
     case rel=>exact⟨4,by decide,rfl,by rw[HP.o,HH.o];exact((HX.o.set3 _).set4 _).grow (aa (ai _) (ai _))⟩
     case measure=>simp[intOf]
   ·have y0:=ae HS.o.s.f 0;have y1:=ae HS.o.s.f 1;have y2:=ae HS.o.s.f 2;have y3:=ae HS.o.s.f 3;have y4:=ae HS.o.s.f 4;have yf:=fun i=>aq HS.o.s.f i;have r0:=ae HS.o.s.r 0;have r1:=ae HS.o.s.r 1;have r2:=ae HS.o.s.r 2;have r3:=ae HS.o.s.r 3;have r4:=ae HS.o.s.r 4;have rf:=fun i=>aq HS.o.s.r i;have hne:¬F=R:=HS.o.s.ne;have hne':¬R=F:=fun e=>HS.o.s.ne e.symm;by_cases hneg:pk<0
    ·have HE:QH (tu p f c0 c1 c2 c3=⟨f.ho,f.su,f.tr,0,hk2⟩):=by
      show tu p f c0 c1 c2 c3=_;unfold tu Gf;rw[show fZ f.po (zs p c0 c1 c2 c3)=pk from HPk.o.symm,if_pos hneg,HHk.o];rfl
     clear HPk HHk;go_wp2;refine bodyPost_ret (v:=.tuple #[fev ⟨f.ho,f.su,f.tr,0,hk2⟩,.int .i64 0]) (by simp[results,Tryz.results159,go_sem,fev,r0,r1,r2,r3,r4]) rfl ⟨by rw[HE.o];rfl,?_⟩;exact ak (ak HS.o.s.g (al _ _ _ _) (fun y e=>by cases e;exact HS.o.s.hF)) (((((al _ _ _ _).trans (al _ _ _ _)).trans (al _ _ _ _)).trans (al _ _ _ _)).trans (al _ _ _ _)) (fun y e=>by cases e;exact HS.o.s.hR)
    ·have HE:QH (tu p f c0 c1 c2 c3=⟨f.ho,f.su,f.tr,pk,hk2⟩):=by
      show tu p f c0 c1 c2 c3=_;unfold tu Gf;rw[show fZ f.po (zs p c0 c1 c2 c3)=pk from HPk.o.symm,if_neg hneg,HHk.o];rfl
     clear HPk HHk;go_wp2;refine bodyPost_ret (v:=.tuple #[fev ⟨f.ho,f.su,f.tr,pk,hk2⟩,.int .i64 0]) (by simp[results,Tryz.results159,go_sem,fev,r0,r1,r2,r3,r4]) rfl ⟨by rw[HE.o];rfl,?_⟩;exact ak HS.o.s.g (((((al _ _ _ _).trans (al _ _ _ _)).trans (al _ _ _ _)).trans (al _ _ _ _)).trans (al _ _ _ _)) (fun y e=>by cases e;exact HS.o.s.hR)
