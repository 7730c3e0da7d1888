import Derived.Test.YtjmepebbcnhalaaGreatW5
import Derived.Test.YtjmepebbcnhalaaGreatWB4
namespace Go.Proofs.YtjmepebbcnhalaaGreat
set_option maxRecDepth 100000
set_option maxHeartbeats 1000000
open Go.RowKit
theorem mC (a:Int) (w:World):Calls Tryz.prog 281 #[.int .u8 a] w fun e w'=>e=.returned (.bool false)∧w'=w:=by
 have h:(a != a)=false:=by simp
 go_enter Tryz.func281,Tryz.ntmps281
 go_wp2
 go_ret
 exact⟨by simp,rfl⟩
theorem lD (a:ByteArray) (w:World):Calls Tryz.prog 282 #[.string a] w fun e w'=>e=.returned (.bool false)∧w'=w:=by
 go_enter Tryz.func282,Tryz.ntmps282
 go_wp2
 go_ret
 exact⟨by simp,rfl⟩
def cI (a b:Int):Int:=if a<b then -1 else if b<a then 1 else 0
def bLt (s t:ByteArray):Bool:=Op.bytesLess s.toList t.toList
def cB (s t:ByteArray):Int:=if bLt s t=true then -1 else if s=t then 0 else 1
def orV (a b:Int):Int:=if a=0 then b else a
def ord (a b:Hd):Int:=orV (cI a.su b.su) (cB a.nm b.nm)
theorem zV (a b:Int) (w:World):Calls Tryz.prog 241 #[.int .u8 a,.int .u8 b] w fun e w'=>e=.returned (.int .i64 (cI a b))∧w'=w:=by
 rcases (show a<b∨(b≤a∧b<a)∨(b≤a∧a≤b) by omega) with h | ⟨h,h'⟩ | ⟨h,h'⟩
 ·have e:cI a b=-1:=if_pos h
  rw[e]
  go_enter Tryz.func241,Tryz.ntmps241
  go_wp2_with (first | (go_at_call 281;refine(mC _ _).mono ?_;rintro e w1 ⟨rfl,h1⟩;obtain rfl:w=w1:=h1.symm) | fail)
  go_ret
  exact⟨rfl,rfl⟩
 ·have e:cI a b=1:=by unfold cI;rw[if_neg (by omega),if_pos h']
  rw[e]
  go_enter Tryz.func241,Tryz.ntmps241
  go_wp2_with (first | (go_at_call 281;refine(mC _ _).mono ?_;rintro e w1 ⟨rfl,h1⟩;obtain rfl:w=w1:=h1.symm) | fail)
  go_ret
  exact⟨rfl,rfl⟩
 ·have e:cI a b=0:=by unfold cI;rw[if_neg (by omega),if_neg (by omega)]
  rw[e]
  go_enter Tryz.func241,Tryz.ntmps241
  go_wp2_with (first | (go_at_call 281;refine(mC _ _).mono ?_;rintro e w1 ⟨rfl,h1⟩;obtain rfl:w=w1:=h1.symm) | fail)
  go_ret
  exact⟨rfl,rfl⟩
theorem yV (a b:ByteArray) (w:World):Calls Tryz.prog 242 #[.string a,.string b] w fun e w'=>e=.returned (.int .i64 (cB a b))∧w'=w:=by
 unfold cB
 cases h:bLt a b with
 | true =>
  rw[if_pos rfl]
  unfold bLt at h
  go_enter Tryz.func242,Tryz.ntmps242
  go_wp2_with (first | (go_at_call 282;refine(lD _ _).mono ?_;rintro e w1 ⟨rfl,h1⟩;obtain rfl:w=w1:=h1.symm) | fail)
  go_ret
  exact⟨rfl,rfl⟩
 | false =>
  rw[if_neg (by simp)]
  unfold bLt at h
  by_cases he:a=b
  ·rw[if_pos he]
   have k:=gI he
   clear he
   go_enter Tryz.func242,Tryz.ntmps242
   go_wp2_with (first | (go_at_call 282;refine(lD _ _).mono ?_;rintro e w1 ⟨rfl,h1⟩;obtain rfl:w=w1:=h1.symm) | fail)
   go_ret
   exact⟨rfl,rfl⟩
  ·rw[if_neg he]
   have k:=iE he
   clear he
   go_enter Tryz.func242,Tryz.ntmps242
   go_wp2_with (first | (go_at_call 282;refine(lD _ _).mono ?_;rintro e w1 ⟨rfl,h1⟩;obtain rfl:w=w1:=h1.symm) | fail)
   go_ret
   exact⟨rfl,rfl⟩
theorem yz (g:Nat) (a b:Int) (w:World) (h0:w.cell? ⟨g,0,none⟩=some (.int .i64 a)) (h1:w.cell? ⟨g,1,none⟩=some (.int .i64 b)):Calls Tryz.prog 134 #[.slice (some ⟨g,0,none⟩) 2 2] w fun e w'=>e=.returned (.int .i64 (orV a b))∧w'=w:=by
 unfold orV
 by_cases ha:a=0
 ·rw[if_pos ha]
  subst ha
  go_enter Tryz.func134,Tryz.ntmps134
  go_wp2_with fail
  go_loopw [8] (fun i wr=>(i=.int .i64 0∨i=.int .i64 1∧True∨i=.int .i64 2∧b=0)∧wr=w) (fun i _=>2 - (intOf i).toNat)
  case atStart=>exact⟨Or.inl rfl,rfl⟩
  case round =>
   obtain⟨rfl | ⟨rfl,_⟩ | ⟨rfl,hb⟩,rfl⟩:=hrel
   ·go_wp2_with fail
    go_roundw
    case rel=>exact⟨Or.inr (Or.inl ⟨rfl,trivial⟩),by first | rfl | trivial⟩
    case measure=>decide
   ·by_cases hb:b=0
    ·have hb':(b != 0)=false:=by simp[hb]
     subst hb
     go_wp2_with fail
     go_roundw
     case rel=>exact⟨Or.inr (Or.inr ⟨rfl,by first | rfl | trivial⟩),by first | rfl | trivial⟩
     case measure=>decide
    ·have hb':(b != 0)=true:=by simpa using hb
     clear hb
     go_wp2
     go_ret
     exact⟨rfl,rfl⟩
   ·subst hb
    go_wp2
    go_ret
    exact⟨rfl,rfl⟩
 ·rw[if_neg ha]
  have hb':(a != 0)=true:=by simpa using ha
  clear ha
  go_enter Tryz.func134,Tryz.ntmps134
  go_wp2_with fail
  go_loopw [8] (fun i wr=>i=.int .i64 0∧wr=w) (fun _ _=>0)
  case atStart=>exact⟨rfl,rfl⟩
  case round =>
   obtain⟨rfl,rfl⟩:=hrel
   go_wp2
   go_ret
   exact⟨rfl,rfl⟩
theorem iK (h k:Hd) (va vb:Value) (w:World) (ha:∃ a n c,va=.slice a n c) (hb:∃ a n c,vb=.slice a n c):Calls Tryz.prog 179 #[cv h va,cv k vb] w fun e w'=>e=.returned (.int .i64 (ord h k))∧w.grownBy w' none:=by
 obtain⟨a1,a2,a3,rfl⟩:=ha
 obtain⟨b1,b2,b3,rfl⟩:=hb
 obtain⟨W2,hW2⟩:∃ W2,W2=(w.alloc (.cells (ccs h (.slice a1 a2 a3)) 111)).alloc (.cells (ccs k (.slice b1 b2 b3)) 111):=⟨_,rfl⟩
 have HG2:Hid (w.grownBy W2 none):=by rw[hW2];exact am (World.grownBy_alloc _ _ none) _
 have A2:CAt W2 w.heap.size h (.slice a1 a2 a3):=by rw[hW2];exact CAt.keep (ak w _ _) (World.grownBy_alloc _ _ none)
 have Z2:CAt W2 (w.heap.size+1) k (.slice b1 b2 b3):=by
  have:=ak (w.alloc (.cells (ccs h (.slice a1 a2 a3)) 111)) (ccs k (.slice b1 b2 b3)) 111
  rw[World.size_alloc] at this
  rw[hW2]
  exact this
 obtain⟨x0,x1,_⟩:=A2.cells
 obtain⟨y0,y1,_⟩:=Z2.cells
 clear A2 Z2
 unfold ccs at hW2
 unfold cv
 go_enter Tryz.func179,Tryz.ntmps179
 go_upto_region 1 with fail
 rw[←hW2]
 clear hW2
 go_region_held3 (fun w'=>w'.cell? ⟨w.heap.size,0,none⟩=some (.string h.nm)∧w'.cell? ⟨w.heap.size,1,none⟩=some (.int .u8 h.su)∧w'.cell? ⟨w.heap.size+1,0,none⟩=some (.string k.nm)∧w'.cell? ⟨w.heap.size+1,1,none⟩=some (.int .u8 k.su)) (first | exact⟨x0,x1,y0,y1⟩ | go_keep) (first | (go_at_call 241;refine(zV _ _ _).mono ?_;rintro e w3 ⟨rfl,rfl⟩) | (go_at_call 242;refine(yV _ _ _).mono ?_;rintro e w3 ⟨rfl,rfl⟩) | (go_at_call 134;refine(yz _ _ _ _ (by exact ae (ak _ _ _) 0) (by exact ae (ak _ _ _) 1)).mono ?_;rintro e w3 ⟨rfl,rfl⟩))
 go_wp2
 go_ret
 exact⟨rfl,aa HG2.out (aa (ag _) (World.grownBy_alloc _ _ none))⟩
def j4 (es:List Ent) (c:Hd) (m:Nat):Prop:=∀ (j:Nat) e,es[j]?=some e→(ord e.h c<0↔j<m)
theorem uQ {x q y:Nat} (h:x≤q) (k:q<y):(intOf (.int .i64 (y:Int))).toNat - (intOf (.int .i64 ((q:Int)+1))).toNat<(intOf (.int .i64 (y:Int))).toNat - (intOf (.int .i64 (x:Int))).toNat:=by simp[intOf];omega
theorem zG {x q y:Nat} (h:x≤q) (k:q<y):(intOf (.int .i64 (q:Int))).toNat - (intOf (.int .i64 (x:Int))).toNat<(intOf (.int .i64 (y:Int))).toNat - (intOf (.int .i64 (x:Int))).toNat:=by simp[intOf];omega
theorem qX (g o cap:Nat) (es:List Ent) (c:Hd) (vc:Value) (m:Nat) (w:World) (hE:ll w g o es) (hs:Slc es) (hc:∃ a n k,vc=.slice a n k) (hm:j4 es c m) (hl:es.length≤64) (hml:m≤es.length):Calls Tryz.prog 178 #[.slice (some ⟨g,o,none⟩) es.length cap,cv c vc,.func (.func 179) #[] #[]] w fun e w'=>(∃ f,e=.returned (.tuple #[.int .i64 m,.bool f]))∧w.grownBy w' none:=by
 obtain⟨a,n,k,rfl⟩:=hc
 obtain⟨W1,hW1⟩:∃ W1,W1=w.alloc (.cells (ccs c (.slice a n k)) 111):=⟨_,rfl⟩
 have HG1:Hid (w.grownBy W1 none):=by rw[hW1];exact World.grownBy_alloc _ _ none
 have HC1:Hid (CAt W1 w.heap.size c (.slice a n k)):=by rw[hW1];exact ak w _ _
 have HE:Hid (ll W1 g o es):=hE.keep HG1.out
 have HS:Hid (Slc es):=hs
 have HM:Hid (j4 es c m):=hm
 unfold ccs at hW1
 unfold cv
 clear hE hs hm
 go_enter Tryz.func178,Tryz.ntmps178
 go_upto_region 1 with fail
 rw[←hW1]
 clear hW1
 go_wp2_with fail
 go_loopw [9,10] (fun i j wr=>∃ x y:Nat,i=.int .i64 x∧j=.int .i64 y∧x≤m∧m≤y∧y≤es.length∧W1.grownBy wr none) (fun i j _=>(intOf j).toNat - (intOf i).toNat)
 case atStart=>exact⟨0,es.length,rfl,rfl,Nat.zero_le _,hml,Nat.le_refl _,ay _ _⟩
 case round =>
  obtain⟨x,y,rfl,rfl,hx,hy,hyl,G⟩:=hrel
  have HG:Hid (W1.grownBy wr none):=G
  clear G
  rcases (show x=y∨x<y from by omega) with hxy | hxy
  ·obtain rfl:x=m:=by omega
   subst hxy
   clear hx hy
   rcases (show x=es.length∨x<es.length from by omega) with hxl | hQ
   ·subst hxl
    go_upto_region 8 with fail
    go_quiet (fail)
    go_wp2
    go_ret2
    exact⟨⟨_,rfl⟩,aa (aa HG1.out HG.out) (aD _ _ _)⟩
   ·have hb:(x:Int)<(es.length:Int):=by omega
    have hb':(0:Int)≤(x:Int):=by omega
    obtain⟨e,hent⟩:∃ e,es[x]?=some e:=⟨_,List.getElem?_eq_getElem hQ⟩
    obtain⟨a1,a2,a3,hv⟩:=HS.out e (List.mem_of_getElem? hent)
    have D:=(HE.out x e hent).keep (aa HG.out (ag _))
    rw[hv] at D
    have CC:=HC1.out.keep (aa HG.out (ag _))
    have KD:Hid (∀ ww,wr.drew.grownBy ww none→C9 ww g (o+x*9) e.h (.slice a1 a2 a3)):=fun ww hh=>D.keep hh
    have KC:Hid (∀ ww,wr.drew.grownBy ww none→CAt ww w.heap.size c (.slice a n k)):=fun ww hh=>CC.keep hh
    have HO:Hid (ord e.h c<0↔x<x):=HM.out x e hent
    obtain⟨d0,d1,d2,d3,d4,d5,d6,d7,d8⟩:=D
    obtain⟨z0,z1,z2,z3,z4,z5,z6,z7,z8⟩:=CC.cells
    clear CC hent hv
    go_upto_region 8 with fail
    go_region_held3 (fun w'=>w'.cell? ⟨g,o+x*9,none⟩=some (.string e.h.nm)∧w'.cell? ⟨g,o+x*9+1,none⟩=some (.int .u8 e.h.su)∧w'.cell? ⟨g,o+x*9+2,none⟩=some (.int .u8 e.h.kd)∧w'.cell? ⟨g,o+x*9+3,none⟩=some (.int .i64 e.h.co)∧w'.cell? ⟨g,o+x*9+4,none⟩=some (.int .i64 e.h.po)∧w'.cell? ⟨g,o+x*9+5,none⟩=some (.int .i64 e.h.he)∧w'.cell? ⟨g,o+x*9+6,none⟩=some (.int .u16 e.h.tr)∧w'.cell? ⟨g,o+x*9+7,none⟩=some (.bool e.h.tk)∧w'.cell? ⟨g,o+x*9+8,none⟩=some (.slice a1 a2 a3)∧w'.cell? ⟨w.heap.size,0,none⟩=some (.string c.nm)∧w'.cell? ⟨w.heap.size,1,none⟩=some (.int .u8 c.su)∧w'.cell? ⟨w.heap.size,2,none⟩=some (.int .u8 c.kd)∧w'.cell? ⟨w.heap.size,3,none⟩=some (.int .i64 c.co)∧w'.cell? ⟨w.heap.size,4,none⟩=some (.int .i64 c.po)∧w'.cell? ⟨w.heap.size,5,none⟩=some (.int .i64 c.he)∧w'.cell? ⟨w.heap.size,6,none⟩=some (.int .u16 c.tr)∧w'.cell? ⟨w.heap.size,7,none⟩=some (.bool c.tk)∧w'.cell? ⟨w.heap.size,8,none⟩=some (.slice a n k)) (first | exact⟨d0,d1,d2,d3,d4,d5,d6,d7,d8,z0,z1,z2,z3,z4,z5,z6,z7,z8⟩ | exact⟨p0,p1,p2,p3,p4,p5,p6,p7,p8,q0,q1,q2,q3,q4,q5,q6,q7,q8⟩) (first | (go_at_call 179;refine(iK e.h c (.slice a1 a2 a3) (.slice a n k) _ ⟨_,_,_,rfl⟩ ⟨_,_,_,rfl⟩).mono ?_;rintro e1 w3 ⟨rfl,g3⟩;have G3:Hid (W1.grownBy w3 none):=aa (aa HG.out (ag _)) g3;obtain⟨p0,p1,p2,p3,p4,p5,p6,p7,p8⟩:=KD.out _ g3;obtain⟨q0,q1,q2,q3,q4,q5,q6,q7,q8⟩:=(KC.out _ g3).cells))
    go_wp2
    go_ret2
    exact⟨⟨_,rfl⟩,aa HG1.out G3.out⟩
  ·have hxy':(x:Int)<(y:Int):=by omega
   have w1:wrap64 ((x:Int)+(y:Int))=(x:Int)+(y:Int):=by unfold wrap64;omega
   obtain⟨q,hq⟩:∃ q:Nat,((x:Int)+(y:Int)) / 2=(q:Int):=⟨(x+y) / 2,by omega⟩
   have hQ:q<es.length:=by omega
   have hqx:x≤q:=by omega
   have hqy:q<y:=by omega
   have w2:wrap64 ((q:Int)+1)=(q:Int)+1:=by unfold wrap64;omega
   have k0:(0:Int)≤(q:Int):=by omega
   have k1:(q:Int)<(es.length:Int):=by omega
   have HQ:Hid (((x:Int)+(y:Int)) / 2=(q:Int)):=hq
   clear hq
   obtain⟨e,hent⟩:∃ e,es[q]?=some e:=⟨_,List.getElem?_eq_getElem hQ⟩
   obtain⟨a1,a2,a3,hv⟩:=HS.out e (List.mem_of_getElem? hent)
   have D:=(HE.out q e hent).keep (aa HG.out (ag _))
   rw[hv] at D
   have CC:=HC1.out.keep (aa HG.out (ag _))
   have KD:Hid (∀ ww,wr.drew.grownBy ww none→C9 ww g (o+q*9) e.h (.slice a1 a2 a3)):=fun ww hh=>D.keep hh
   have KC:Hid (∀ ww,wr.drew.grownBy ww none→CAt ww w.heap.size c (.slice a n k)):=fun ww hh=>CC.keep hh
   have HO:Hid (ord e.h c<0↔q<m):=HM.out q e hent
   obtain⟨d0,d1,d2,d3,d4,d5,d6,d7,d8⟩:=D
   obtain⟨z0,z1,z2,z3,z4,z5,z6,z7,z8⟩:=CC.cells
   clear CC hent hv
   go_upto_region 5 with fail
   rw[HQ.out]
   by_cases hord:ord e.h c<0
   ·have hqm:q<m:=HO.out.1 hord
    go_region_held3 (fun w'=>w'.cell? ⟨g,o+q*9,none⟩=some (.string e.h.nm)∧w'.cell? ⟨g,o+q*9+1,none⟩=some (.int .u8 e.h.su)∧w'.cell? ⟨g,o+q*9+2,none⟩=some (.int .u8 e.h.kd)∧w'.cell? ⟨g,o+q*9+3,none⟩=some (.int .i64 e.h.co)∧w'.cell? ⟨g,o+q*9+4,none⟩=some (.int .i64 e.h.po)∧w'.cell? ⟨g,o+q*9+5,none⟩=some (.int .i64 e.h.he)∧w'.cell? ⟨g,o+q*9+6,none⟩=some (.int .u16 e.h.tr)∧w'.cell? ⟨g,o+q*9+7,none⟩=some (.bool e.h.tk)∧w'.cell? ⟨g,o+q*9+8,none⟩=some (.slice a1 a2 a3)∧w'.cell? ⟨w.heap.size,0,none⟩=some (.string c.nm)∧w'.cell? ⟨w.heap.size,1,none⟩=some (.int .u8 c.su)∧w'.cell? ⟨w.heap.size,2,none⟩=some (.int .u8 c.kd)∧w'.cell? ⟨w.heap.size,3,none⟩=some (.int .i64 c.co)∧w'.cell? ⟨w.heap.size,4,none⟩=some (.int .i64 c.po)∧w'.cell? ⟨w.heap.size,5,none⟩=some (.int .i64 c.he)∧w'.cell? ⟨w.heap.size,6,none⟩=some (.int .u16 c.tr)∧w'.cell? ⟨w.heap.size,7,none⟩=some (.bool c.tk)∧w'.cell? ⟨w.heap.size,8,none⟩=some (.slice a n k)) (first | exact⟨d0,d1,d2,d3,d4,d5,d6,d7,d8,z0,z1,z2,z3,z4,z5,z6,z7,z8⟩ | exact⟨p0,p1,p2,p3,p4,p5,p6,p7,p8,q0,q1,q2,q3,q4,q5,q6,q7,q8⟩) (first | (go_at_call 179;refine(iK e.h c (.slice a1 a2 a3) (.slice a n k) _ ⟨_,_,_,rfl⟩ ⟨_,_,_,rfl⟩).mono ?_;rintro e1 w3 ⟨rfl,g3⟩;have G3:Hid (W1.grownBy w3 none):=aa (aa HG.out (ag _)) g3;obtain⟨p0,p1,p2,p3,p4,p5,p6,p7,p8⟩:=KD.out _ g3;obtain⟨q0,q1,q2,q3,q4,q5,q6,q7,q8⟩:=(KC.out _ g3).cells))
    go_wp2_with fail
    go_roundw
    case rel=>exact⟨q+1,y,by first | rfl | (rw[w2];rfl),rfl,by omega,hy,hyl,G3.out⟩
    case measure=>first | exact uQ hqx hqy | (rw[w2];exact uQ hqx hqy)
   ·have hqm:m≤q:=by have:=mt HO.out.2 hord;omega
    have hord':0≤ord e.h c:=by omega
    clear hord
    go_region_held3 (fun w'=>w'.cell? ⟨g,o+q*9,none⟩=some (.string e.h.nm)∧w'.cell? ⟨g,o+q*9+1,none⟩=some (.int .u8 e.h.su)∧w'.cell? ⟨g,o+q*9+2,none⟩=some (.int .u8 e.h.kd)∧w'.cell? ⟨g,o+q*9+3,none⟩=some (.int .i64 e.h.co)∧w'.cell? ⟨g,o+q*9+4,none⟩=some (.int .i64 e.h.po)∧w'.cell? ⟨g,o+q*9+5,none⟩=some (.int .i64 e.h.he)∧w'.cell? ⟨g,o+q*9+6,none⟩=some (.int .u16 e.h.tr)∧w'.cell? ⟨g,o+q*9+7,none⟩=some (.bool e.h.tk)∧w'.cell? ⟨g,o+q*9+8,none⟩=some (.slice a1 a2 a3)∧w'.cell? ⟨w.heap.size,0,none⟩=some (.string c.nm)∧w'.cell? ⟨w.heap.size,1,none⟩=some (.int .u8 c.su)∧w'.cell? ⟨w.heap.size,2,none⟩=some (.int .u8 c.kd)∧w'.cell? ⟨w.heap.size,3,none⟩=some (.int .i64 c.co)∧w'.cell? ⟨w.heap.size,4,none⟩=some (.int .i64 c.po)∧w'.cell? ⟨w.heap.size,5,none⟩=some (.int .i64 c.he)∧w'.cell? ⟨w.heap.size,6,none⟩=some (.int .u16 c.tr)∧w'.cell? ⟨w.heap.size,7,none⟩=some (.bool c.tk)∧w'.cell? ⟨w.heap.size,8,none⟩=some (.slice a n k)) (first | exact⟨d0,d1,d2,d3,d4,d5,d6,d7,d8,z0,z1,z2,z3,z4,z5,z6,z7,z8⟩ | exact⟨p0,p1,p2,p3,p4,p5,p6,p7,p8,q0,q1,q2,q3,q4,q5,q6,q7,q8⟩) (first | (go_at_call 179;refine(iK e.h c (.slice a1 a2 a3) (.slice a n k) _ ⟨_,_,_,rfl⟩ ⟨_,_,_,rfl⟩).mono ?_;rintro e1 w3 ⟨rfl,g3⟩;have G3:Hid (W1.grownBy w3 none):=aa (aa HG.out (ag _)) g3;obtain⟨p0,p1,p2,p3,p4,p5,p6,p7,p8⟩:=KD.out _ g3;obtain⟨q0,q1,q2,q3,q4,q5,q6,q7,q8⟩:=(KC.out _ g3).cells))
    go_wp2_with fail
    go_roundw
    case rel=>exact⟨x,q,rfl,rfl,hx,hqm,by omega,G3.out⟩
    case measure=>exact zG hqx hqy
theorem jH {w:World} {b i:Nat} {v:Value} {cs:Array Value} {t:TypeId} {z:Nat×Nat} (h:w.heap[b]?=some (.cells cs t z)) (hv:cs[i]?=some v):w.setCell ⟨b,i,none⟩ v=w:=by
 have hlt:b<w.heap.size:=(Array.getElem?_eq_some_iff.1 h).1
 have hb:w.heap[b]=.cells cs t z:=(Array.getElem?_eq_some_iff.1 h).2
 have hs:cs.setIfInBounds i v=cs:=by
  apply Array.ext_getElem?
  intro k
  rw[Array.getElem?_setIfInBounds]
  split
  ·rename_i e
   subst e
   rw[hv,if_pos (Array.getElem?_eq_some_iff.1 hv).1]
  ·rfl
 unfold World.setCell
 cases w with
 | mk heap tape drawn os output =>
  congr 1
  apply Array.ext
  ·simp
  ·intro k h1 h2
   simp only[Array.getElem_modify]
   split
   ·rename_i hk
    subst hk
    simp at hb
    simp[hb,hs]
   ·rfl
def fU (w:World) (b o:Nat) (h:Hd) (v:Value):World:=((((((((w.setCell ⟨b,o,none⟩ (.string h.nm)).setCell ⟨b,o+1,none⟩ (.int .u8 h.su)).setCell ⟨b,o+2,none⟩ (.int .u8 h.kd)).setCell ⟨b,o+3,none⟩ (.int .i64 h.co)).setCell ⟨b,o+4,none⟩ (.int .i64 h.po)).setCell ⟨b,o+5,none⟩ (.int .i64 h.he)).setCell ⟨b,o+6,none⟩ (.int .u16 h.tr)).setCell ⟨b,o+7,none⟩ (.bool h.tk)).setCell ⟨b,o+8,none⟩ v
theorem cH (w:World) (b o:Nat) (h:Hd) (v:Value):w.grownBy (fU w b o h v) (some b):=((((((((aw _ b _ _).trans (aw _ b _ _)).trans (aw _ b _ _)).trans (aw _ b _ _)).trans (aw _ b _ _)).trans (aw _ b _ _)).trans (aw _ b _ _)).trans (aw _ b _ _)).trans (aw _ b _ _)
theorem CAt.st9 {w:World} {s:Nat} {h0 h:Hd} {v0 v:Value} (k:CAt w s h0 v0):CAt (((((((((w.setCell ⟨s,0,none⟩ (.string h.nm)).setCell ⟨s,1,none⟩ (.int .u8 h.su)).setCell ⟨s,2,none⟩ (.int .u8 h.kd)).setCell ⟨s,3,none⟩ (.int .i64 h.co)).setCell ⟨s,4,none⟩ (.int .i64 h.po)).setCell ⟨s,5,none⟩ (.int .i64 h.he)).setCell ⟨s,6,none⟩ (.int .u16 h.tr)).setCell ⟨s,7,none⟩ (.bool h.tk)).setCell ⟨s,8,none⟩ v) s h v:=by
 have k0:w.heap[s]?=some (.cells #[(.string h0.nm),(.int .u8 h0.su),(.int .u8 h0.kd),(.int .i64 h0.co),(.int .i64 h0.po),(.int .i64 h0.he),(.int .u16 h0.tr),(.bool h0.tk),v0] 111 (0,0)):=k
 clear k
 obtain⟨w1,e1⟩:∃ x,x=w.setCell ⟨s,0,none⟩ (.string h.nm):=⟨_,rfl⟩
 have k1:w1.heap[s]?=some (.cells #[(.string h.nm),(.int .u8 h0.su),(.int .u8 h0.kd),(.int .i64 h0.co),(.int .i64 h0.po),(.int .i64 h0.he),(.int .u16 h0.tr),(.bool h0.tk),v0] 111 (0,0)):=by rw[e1];exact aF k0 0 _
 rw[←e1]
 clear k0 e1
 obtain⟨w2,e2⟩:∃ x,x=w1.setCell ⟨s,1,none⟩ (.int .u8 h.su):=⟨_,rfl⟩
 have k2:w2.heap[s]?=some (.cells #[(.string h.nm),(.int .u8 h.su),(.int .u8 h0.kd),(.int .i64 h0.co),(.int .i64 h0.po),(.int .i64 h0.he),(.int .u16 h0.tr),(.bool h0.tk),v0] 111 (0,0)):=by rw[e2];exact aF k1 1 _
 rw[←e2]
 clear k1 e2
 obtain⟨w3,e3⟩:∃ x,x=w2.setCell ⟨s,2,none⟩ (.int .u8 h.kd):=⟨_,rfl⟩
 have k3:w3.heap[s]?=some (.cells #[(.string h.nm),(.int .u8 h.su),(.int .u8 h.kd),(.int .i64 h0.co),(.int .i64 h0.po),(.int .i64 h0.he),(.int .u16 h0.tr),(.bool h0.tk),v0] 111 (0,0)):=by rw[e3];exact aF k2 2 _
 rw[←e3]
 clear k2 e3
 obtain⟨w4,e4⟩:∃ x,x=w3.setCell ⟨s,3,none⟩ (.int .i64 h.co):=⟨_,rfl⟩
 have k4:w4.heap[s]?=some (.cells #[(.string h.nm),(.int .u8 h.su),(.int .u8 h.kd),(.int .i64 h.co),(.int .i64 h0.po),(.int .i64 h0.he),(.int .u16 h0.tr),(.bool h0.tk),v0] 111 (0,0)):=by rw[e4];exact aF k3 3 _
 rw[←e4]
 clear k3 e4
 obtain⟨w5,e5⟩:∃ x,x=w4.setCell ⟨s,4,none⟩ (.int .i64 h.po):=⟨_,rfl⟩
 have k5:w5.heap[s]?=some (.cells #[(.string h.nm),(.int .u8 h.su),(.int .u8 h.kd),(.int .i64 h.co),(.int .i64 h.po),(.int .i64 h0.he),(.int .u16 h0.tr),(.bool h0.tk),v0] 111 (0,0)):=by rw[e5];exact aF k4 4 _
 rw[←e5]
 clear k4 e5
 obtain⟨w6,e6⟩:∃ x,x=w5.setCell ⟨s,5,none⟩ (.int .i64 h.he):=⟨_,rfl⟩
 have k6:w6.heap[s]?=some (.cells #[(.string h.nm),(.int .u8 h.su),(.int .u8 h.kd),(.int .i64 h.co),(.int .i64 h.po),(.int .i64 h.he),(.int .u16 h0.tr),(.bool h0.tk),v0] 111 (0,0)):=by rw[e6];exact aF k5 5 _
 rw[←e6]
 clear k5 e6
 obtain⟨w7,e7⟩:∃ x,x=w6.setCell ⟨s,6,none⟩ (.int .u16 h.tr):=⟨_,rfl⟩
 have k7:w7.heap[s]?=some (.cells #[(.string h.nm),(.int .u8 h.su),(.int .u8 h.kd),(.int .i64 h.co),(.int .i64 h.po),(.int .i64 h.he),(.int .u16 h.tr),(.bool h0.tk),v0] 111 (0,0)):=by rw[e7];exact aF k6 6 _
 rw[←e7]
 clear k6 e7
 obtain⟨w8,e8⟩:∃ x,x=w7.setCell ⟨s,7,none⟩ (.bool h.tk):=⟨_,rfl⟩
 have k8:w8.heap[s]?=some (.cells #[(.string h.nm),(.int .u8 h.su),(.int .u8 h.kd),(.int .i64 h.co),(.int .i64 h.po),(.int .i64 h.he),(.int .u16 h.tr),(.bool h.tk),v0] 111 (0,0)):=by rw[e8];exact aF k7 7 _
 rw[←e8]
 clear k7 e8
 obtain⟨w9,e9⟩:∃ x,x=w8.setCell ⟨s,8,none⟩ v:=⟨_,rfl⟩
 have k9:w9.heap[s]?=some (.cells #[(.string h.nm),(.int .u8 h.su),(.int .u8 h.kd),(.int .i64 h.co),(.int .i64 h.po),(.int .i64 h.he),(.int .u16 h.tr),(.bool h.tk),v] 111 (0,0)):=by rw[e9];exact aF k8 8 _
 rw[←e9]
 clear k8 e9
 exact k9
theorem CAt.s9 {w:World} {b:Nat} {k:Hd} {u:Value} (h:CAt w b k u) (c:Hd) (v:Value):CAt (fU w b 0 c v) b c v:=by
 unfold fU
 simp only[Nat.zero_add]
 exact h.st9
def Nmd (ps:List Pt):Prop:=∀ p∈ps,p.nm.size≤281474976710656
theorem bA.name {w:World} {base g n cap:Nat} {ps:List Pt} (h:bA w base (.slice (some ⟨g,0,none⟩) n cap) ps) {k:Nat} {p:Pt} (hp:ps[k]?=some p):w.setCell ⟨g,k*8+7,none⟩ (.string p.nm)=w∧w.frozen? ⟨g,k*8+7,none⟩=false∧w.cell? ⟨g,k*8+7,none⟩=some (.string p.nm):=by
 obtain⟨h1,⟨h2,_⟩ | ⟨g',cap',cur,e,hb,hh,hn,hc,hz,ht⟩⟩:=h
 ·cases h2
 ·injection e with e1 e2 e3
  injection e1 with e1
  injection e1 with e1 _ _
  subst e1
  have hk:k<ps.length:=(List.getElem?_eq_some_iff.1 hp).1
  have hv:cur[k*8+7]?=some (.string p.nm):=by
   have:=gR ps k p hp 7 (by omega)
   rw[←ht,List.getElem?_take_of_lt (by omega)] at this
   simpa [pvs] using this
  exact⟨jH hh hv,by simp[World.frozen?,hh],by simp only[World.cell?,hh];exact hv⟩
theorem Bk (h:Hd) (v:Value) (ps:List Pt) (w:World) (hp:bY w v ps) (hl:ps.length≤4) (hn:h.nm.size≤281474976710656) (hN:Nmd ps):Calls Tryz.prog 114 #[cv h v] w fun e w'=>∃ u,e=.returned (cv h u)∧bA w' w.heap.size u ps∧w.grownBy w' none:=by
 have hb:ps.length*40≤140737488355328:=by omega
 have hm':aZ ps.length:=by unfold aZ;omega
 have HN:Hid (Nmd ps):=hN
 obtain⟨a,c,rfl⟩:=hp.form
 obtain⟨W2,hW2⟩:∃ W2,W2=(w.alloc (.cells (ccs h (.slice a ps.length c)) 111)).alloc (.cells (ccs Hd.none (.slice none 0 0)) 111):=⟨_,rfl⟩
 have G2:w.grownBy W2 none:=by rw[hW2];exact am (World.grownBy_alloc _ _ none) _
 have A2:CAt W2 w.heap.size h (.slice a ps.length c):=by rw[hW2];exact CAt.keep (ak w _ _) (World.grownBy_alloc _ _ none)
 have Z2:CAt W2 (w.heap.size+1) Hd.none (.slice none 0 0):=by
  have:=ak (w.alloc (.cells (ccs h (.slice a ps.length c)) 111)) (ccs Hd.none (.slice none 0 0)) 111
  rw[World.size_alloc] at this
  rw[hW2]
  exact this
 have hs2:W2.heap.size=w.heap.size+2:=by rw[hW2];simp
 have HC:=nZ h (.slice a ps.length c) ps W2 (hp.keep G2) hb
 have HA2:Hid (CAt W2 w.heap.size h (.slice a ps.length c)):=A2
 have HZ2:Hid (CAt W2 (w.heap.size+1) Hd.none (.slice none 0 0)):=Z2
 have HG2:Hid (w.grownBy W2 none):=G2
 obtain⟨c0,c1,c2,c3,c4,c5,c6,c7,c8⟩:=A2.cells
 unfold ccs Hd.none at hW2
 clear G2 A2 Z2 hp hN
 unfold cv at HC ⊢
 go_enter Tryz.func114,Tryz.ntmps114
 go_upto_region 1 with fail
 rw[←hW2]
 clear hW2
 go_upto_region 2 with (first | (go_at_call 180;refine HC.mono ?_;rintro e w3 ⟨u,rfl,o3,g3⟩;obtain⟨a3,k3,rfl⟩:=o3.at.form;have HO3:Hid (bA w3 W2.heap.size (.slice a3 ps.length k3) ps):=o3;have HG3:Hid (W2.grownBy w3 none):=g3;have C3:=HA2.out.keep g3;obtain⟨d0,d1,d2,d3,d4,d5,d6,d7,d8⟩:=C3.cells;have df:=fun i=>C3.free i;clear o3 C3 c0 c1 c2 c3 c4 c5 c6 c7 c8) | fail)
 obtain⟨W4,hW4⟩:∃ W4,W4=fU w3 w.heap.size 0 h (.slice a3 ps.length k3):=⟨_,rfl⟩
 have A4:CAt W4 w.heap.size h (.slice a3 ps.length k3):=by rw[hW4];exact(HA2.out.keep HG3.out).s9 h _
 have Z4:CAt W4 (w.heap.size+1) Hd.none (.slice none 0 0):=by rw[hW4];exact(HZ2.out.keep HG3.out).keepR (cH _ _ _ _ _) (by simp)
 have O4:bA W4 W2.heap.size (.slice a3 ps.length k3) ps:=by rw[hW4];exact HO3.out.keep (cH _ _ _ _ _) (fun x e=>by cases e;omega)
 have G4:w.grownBy W4 none:=by rw[hW4];exact az (aa HG2.out HG3.out) (cH _ _ _ _ _) (fun x e=>by cases e;exact Nat.le_refl _)
 unfold fU at hW4
 simp only[Nat.zero_add] at hW4
 rw[←hW4]
 clear hW4 d0 d1 d2 d3 d4 d5 d6 d7 d8 df HO3 HG3 g3 HA2 HZ2 HC
 have e0:=A4.cells.1
 have HA4:Hid (CAt W4 w.heap.size h (.slice a3 ps.length k3)):=A4
 have HZ4:Hid (CAt W4 (w.heap.size+1) Hd.none (.slice none 0 0)):=Z4
 have HO4:Hid (bA W4 W2.heap.size (.slice a3 ps.length k3) ps):=O4
 have HG4:Hid (w.grownBy W4 none):=G4
 clear A4 Z4 O4 G4
 go_upto_region 3 with (first | (go_at_call 124;refine(kT h.nm hn _).mono ?_;rintro e w5 ⟨rfl,g5⟩;have A5:=HA4.out.keep g5;have f0:=A5.cells.1;have ff:=fun i=>A5.free i;have SS:w5.setCell ⟨w.heap.size,0,none⟩ (.string h.nm)=w5:=jH A5 rfl;have HA5:Hid (CAt w5 w.heap.size h (.slice a3 ps.length k3)):=A5;have HZ5:Hid (CAt w5 (w.heap.size+1) Hd.none (.slice none 0 0)):=HZ4.out.keep g5;have HO5:Hid (bA w5 W2.heap.size (.slice a3 ps.length k3) ps):=HO4.out.keep g5 (by simp);have HG5:Hid (w.grownBy w5 none):=aa HG4.out g5;clear A5 e0) | fail)
 have x8:=HA5.out.cells.2.2.2.2.2.2.2.2
 clear ff f0 SS
 go_wp2_with fail
 go_loopw [13] (fun i wr=>∃ k:Nat,k≤ps.length∧i=.int .i64 k∧CAt wr w.heap.size h (.slice a3 ps.length k3)∧CAt wr (w.heap.size+1) Hd.none (.slice none 0 0)∧bA wr W2.heap.size (.slice a3 ps.length k3) ps∧w.grownBy wr none) (fun i _=>ps.length - (intOf i).toNat)
 case atStart=>exact⟨0,Nat.zero_le _,rfl,HA5.out,HZ5.out,HO5.out,HG5.out⟩
 case round =>
  obtain⟨k,hk,rfl,A,Z,O,G⟩:=hrel
  have HA:Hid (CAt wr w.heap.size h (.slice a3 ps.length k3)):=A
  have HZ:Hid (CAt wr (w.heap.size+1) Hd.none (.slice none 0 0)):=Z
  have HO:Hid (bA wr W2.heap.size (.slice a3 ps.length k3) ps):=O
  have HG:Hid (w.grownBy wr none):=G
  clear A Z O G HA5 HZ5 HO5 HG5 x8
  rcases (show k=ps.length∨k<ps.length from by omega) with hke | hlt
  ·clear hk hl hb
   subst hke
   obtain⟨c0,c1,c2,c3,c4,c5,c6,c7,c8⟩:=HA.out.cells
   obtain⟨z0,z1,z2,z3,z4,z5,z6,z7,z8⟩:=HZ.out.cells
   have zf:=fun i=>HZ.out.free i
   simp only[Hd.none] at z0 z1 z2 z3 z4 z5 z6 z7 z8
   go_wp2
   refine bodyPost_ret (v:=cv h (.slice a3 ps.length k3)) (by simp[results,Tryz.results114,go_sem,z0,z1,z2,z3,z4,z5,z6,z7,z8,cv]) rfl ⟨.slice a3 ps.length k3,rfl,?_,?_⟩
   ·have:=(HO.out.keep (cH wr (w.heap.size+1) 0 h (.slice a3 ps.length k3)) (fun x e=>by cases e;omega)).big (show w.heap.size≤W2.heap.size by omega)
    unfold fU at this
    simp only[Nat.zero_add] at this
    exact this
   ·have:=az HG.out (cH wr (w.heap.size+1) 0 h (.slice a3 ps.length k3)) (fun x e=>by cases e;omega)
    unfold fU at this
    simp only[Nat.zero_add] at this
    exact this
  ·have hlt':(k:Int)<(ps.length:Int):=by omega
   have hk0:(0:Int)≤(k:Int):=by omega
   have hw:=hm'.wrap hlt
   obtain⟨p,hp⟩:∃ p,ps[k]?=some p:=⟨_,List.getElem?_eq_getElem hlt⟩
   obtain⟨g,rfl⟩:∃ g,a3=some ⟨g,0,none⟩:=by
    rcases HO.out with ⟨_,⟨e,h2⟩ | ⟨g,cap,cur,e,_⟩⟩
    ·rw[h2] at hlt;omega
    ·injection e with e1;exact⟨g,e1⟩
   obtain⟨_,_,n1⟩:=HO.out.name hp
   have c8:=HA.out.cells.2.2.2.2.2.2.2.2
   have hsz:=HN.out p (List.mem_of_getElem? hp)
   have HP:Hid (ps[k]?=some p):=hp
   clear hp
   go_upto_region 6 with fail
   go_region_with (first | (go_at_call 124;refine(kT p.nm hsz _).mono ?_;rintro e w6 ⟨rfl,g6⟩;have G6:Hid (wr.grownBy w6 none):=aa (ag _) g6;have c86:=(HA.out.keep G6.out).cells.2.2.2.2.2.2.2.2;obtain⟨S6,F6,N6⟩:=(HO.out.keep G6.out (by simp)).name HP.out) | fail)
   all_goals
    go_wp2_with fail
    go_roundw
    case rel=>exact⟨k+1,hlt,by first | rfl | (rw[hw];rfl),HA.out.keep G6.out,HZ.out.keep G6.out,HO.out.keep G6.out (by simp),aa HG.out G6.out⟩
    case measure=>first | exact au hlt | (rw[hw];exact au hlt)
end Go.Proofs.YtjmepebbcnhalaaGreat
