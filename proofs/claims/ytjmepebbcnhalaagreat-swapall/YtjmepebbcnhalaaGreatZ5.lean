import Derived.Test.YtjmepebbcnhalaaGreatZ4
namespace Go.Proofs.YtjmepebbcnhalaaGreat
open Tryz
set_option maxRecDepth 100000
set_option maxHeartbeats 1000000
open Go.RowKit
variable {w:World} {b i base g cap:Nat} {v u:Value} {cs:Array Value} {ps:List Pt}
theorem pC (a:Int) (w:World):Calls prog 281 #[.int .u8 a] w fun e w'=>e=.returned (.bool false)∧w'=w:=by
 have h:(a != a)=false:=by simp
 go_enter func281,ntmps281;go_wp2;go_ret;exact⟨by simp,rfl⟩
theorem nQ (a:ByteArray) (w:World):Calls prog 282 #[.string a] w fun e w'=>e=.returned (.bool false)∧w'=w:=by
 go_enter func282,ntmps282;go_wp2;go_ret;exact⟨by simp,rfl⟩
def cI (a b:Int):Int:=if a<b then -1 else if b<a then 1 else 0
def bLt (s t:ByteArray):Bool:=Op.bytesLess s.toList t.toList
def cB (s t:ByteArray):Int:=if bLt s t=true then -1 else if s=t then 0 else 1
def orV (a b:Int):Int:=if a=0 then b else a
def ord (a b:Hd):Int:=orV (cI a.su b.su) (cB a.nm b.nm)
theorem D6 (a b:Int) (w:World):Calls prog 241 #[.int .u8 a,.int .u8 b] w fun e w'=>e=.returned (.int .i64 (cI a b))∧w'=w:=by
 rcases (show a<b∨(b≤a∧b<a)∨(b≤a∧a≤b) by omega) with h | ⟨h,h'⟩ | ⟨h,h'⟩
 ·have e:cI a b=-1:=if_pos h;rw[e];go_enter func241,ntmps241;go_wp2_with (first | (go_at_call 281;refine(pC _ _).mono ?_;rintro e w1 ⟨rfl,h1⟩;obtain rfl:w=w1:=h1.symm) | fail)
  go_ret;exact⟨rfl,rfl⟩
 ·have e:cI a b=1:=by unfold cI;rw[if_neg (by omega),if_pos h']
  rw[e];go_enter func241,ntmps241;go_wp2_with (first | (go_at_call 281;refine(pC _ _).mono ?_;rintro e w1 ⟨rfl,h1⟩;obtain rfl:w=w1:=h1.symm) | fail)
  go_ret;exact⟨rfl,rfl⟩
 ·have e:cI a b=0:=by unfold cI;rw[if_neg (by omega),if_neg (by omega)]
  rw[e];go_enter func241,ntmps241;go_wp2_with (first | (go_at_call 281;refine(pC _ _).mono ?_;rintro e w1 ⟨rfl,h1⟩;obtain rfl:w=w1:=h1.symm) | fail)
  go_ret;exact⟨rfl,rfl⟩
theorem BJ (a b:ByteArray) (w:World):Calls prog 242 #[.string a,.string b] w fun e w'=>e=.returned (.int .i64 (cB a b))∧w'=w:=by
 unfold cB;cases h:bLt a b with
 | true =>
  rw[if_pos rfl];unfold bLt at h;go_enter func242,ntmps242;go_wp2_with (first | (go_at_call 282;refine(nQ _ _).mono ?_;rintro e w1 ⟨rfl,h1⟩;obtain rfl:w=w1:=h1.symm) | fail)
  go_ret;exact⟨rfl,rfl⟩
 | false =>
  rw[if_neg (by simp)];unfold bLt at h;by_cases he:a=b
  ·rw[if_pos he];have k:=iI he;clear he;go_enter func242,ntmps242;go_wp2_with (first | (go_at_call 282;refine(nQ _ _).mono ?_;rintro e w1 ⟨rfl,h1⟩;obtain rfl:w=w1:=h1.symm) | fail)
   go_ret;exact⟨rfl,rfl⟩
  ·rw[if_neg he];have k:=jg he;clear he;go_enter func242,ntmps242;go_wp2_with (first | (go_at_call 282;refine(nQ _ _).mono ?_;rintro e w1 ⟨rfl,h1⟩;obtain rfl:w=w1:=h1.symm) | fail)
   go_ret;exact⟨rfl,rfl⟩
theorem GI (g:Nat) (a b:Int) (w:World) (h0:w.cell? ⟨g,0,none⟩=some (.int .i64 a)) (h1:w.cell? ⟨g,1,none⟩=some (.int .i64 b)):Calls prog 134 #[.slice (some ⟨g,0,none⟩) 2 2] w fun e w'=>e=.returned (.int .i64 (orV a b))∧w'=w:=by
 unfold orV;by_cases ha:a=0
 ·rw[if_pos ha];subst ha;go_enter func134,ntmps134;go_wp2_with fail;go_loopw [8] (fun i wr=>(i=.int .i64 0∨i=.int .i64 1∧True∨i=.int .i64 2∧b=0)∧wr=w) (fun i _=>2 - (intOf i).toNat)
  case atStart=>exact⟨Or.inl rfl,rfl⟩
  case round =>
   obtain⟨rfl | ⟨rfl,_⟩ | ⟨rfl,hb⟩,rfl⟩:=hrel
   ·go_wp2_with fail;go_roundw
    case rel=>exact⟨Or.inr (Or.inl ⟨rfl,trivial⟩),by first | rfl | trivial⟩
    case measure=>decide
   ·by_cases hb:b=0
    ·have hb':(b != 0)=false:=(by simp[hb]);subst hb;go_wp2_with fail;go_roundw
     case rel=>exact⟨Or.inr (Or.inr ⟨rfl,by first | rfl | trivial⟩),by first | rfl | trivial⟩
     case measure=>decide
    ·have hb':(b != 0)=true:=(by simpa using hb);clear hb;go_wp2;go_ret;exact⟨rfl,rfl⟩
   ·subst hb;go_wp2;go_ret;exact⟨rfl,rfl⟩
 ·rw[if_neg ha];have hb':(a != 0)=true:=by simpa using ha
  clear ha;go_enter func134,ntmps134;go_wp2_with fail;go_loopw [8] (fun i wr=>i=.int .i64 0∧wr=w) (fun _ _=>0)
  case atStart=>exact⟨rfl,rfl⟩
  case round =>
   obtain⟨rfl,rfl⟩:=hrel;go_wp2;go_ret;exact⟨rfl,rfl⟩
theorem jk (h k:Hd) (va vb:Value) (w:World) (ha:∃ a n c,va=.slice a n c) (hb:∃ a n c,vb=.slice a n c):Calls prog 179 #[cv h va,cv k vb] w fun e w'=>e=.returned (.int .i64 (ord h k))∧w.grownBy w' none:=by
 obtain⟨a1,a2,a3,rfl⟩:=ha;obtain⟨b1,b2,b3,rfl⟩:=hb;obtain⟨W2,hW2⟩:=Qe ((w.alloc (.cells (ccs h (.slice a1 a2 a3)) 111)).alloc (.cells (ccs k (.slice b1 b2 b3)) 111));have HG2:QH (w.grownBy W2 none):=by rw[hW2];exact am QG _
 have A2:CAt W2 w.heap.size h (.slice a1 a2 a3):=by rw[hW2];exact CAt.keep (aj w _ _) QG
 have Z2:CAt W2 (w.heap.size+1) k (.slice b1 b2 b3):=by
  have:=aj (w.alloc (.cells (ccs h (.slice a1 a2 a3)) 111)) (ccs k (.slice b1 b2 b3)) 111;rw[Qa3] at this;rw[hW2];exact this
 obtain⟨x0,x1,_⟩:=A2.cells;obtain⟨y0,y1,_⟩:=Z2.cells;clear A2 Z2;unfold ccs at hW2;unfold cv;go_enter func179,ntmps179;go_upto_region 1 with fail;rw[←hW2];clear hW2;go_region_held3 (fun w'=>w'.cell? ⟨w.heap.size,0,none⟩=some (.string h.nm)∧w'.cell? ⟨w.heap.size,1,none⟩=some (.int .u8 h.su)∧w'.cell? ⟨w.heap.size+1,0,none⟩=some (.string k.nm)∧w'.cell? ⟨w.heap.size+1,1,none⟩=some (.int .u8 k.su)) (first | exact⟨x0,x1,y0,y1⟩ | go_keep) (first | (go_at_call 241;refine(D6 _ _ _).mono ?_;rintro e w3 ⟨rfl,rfl⟩) | (go_at_call 242;refine(BJ _ _ _).mono ?_;rintro e w3 ⟨rfl,rfl⟩) | (go_at_call 134;refine(GI _ _ _ _ (by exact ae (aj _ _ _) 0) (by exact ae (aj _ _ _) 1)).mono ?_;rintro e w3 ⟨rfl,rfl⟩));go_wp2;go_ret;exact⟨rfl,aa HG2.o (aa (ai _) QG)⟩
def jE (es:List Ent) (c:Hd) (m:Nat):Prop:=∀ (j:Nat) e,es[j]?=some e→(ord e.h c<0↔j<m)
theorem yu {x q y:Nat} (h:x≤q) (k:q<y):(intOf (.int .i64 (y:Int))).toNat - (intOf (.int .i64 ((q:Int)+1))).toNat<(intOf (.int .i64 (y:Int))).toNat - (intOf (.int .i64 (x:Int))).toNat:=by simp[intOf];omega
theorem BV {x q y:Nat} (h:x≤q) (k:q<y):(intOf (.int .i64 (q:Int))).toNat - (intOf (.int .i64 (x:Int))).toNat<(intOf (.int .i64 (y:Int))).toNat - (intOf (.int .i64 (x:Int))).toNat:=by simp[intOf];omega
theorem uW (g o cap:Nat) (es:List Ent) (c:Hd) (vc:Value) (m:Nat) (w:World) (hE:mI w g o es) (hs:Slc es) (hc:∃ a n k,vc=.slice a n k) (hm:jE es c m) (hl:es.length≤64) (hml:m≤es.length):Calls prog 178 #[.slice (some ⟨g,o,none⟩) es.length cap,cv c vc,.func (.func 179) #[] #[]] w fun e w'=>(∃ f,e=.returned (.tuple #[.int .i64 m,.bool f]))∧w.grownBy w' none:=by
 obtain⟨a,n,k,rfl⟩:=hc;obtain⟨W1,hW1⟩:=Qe (w.alloc (.cells (ccs c (.slice a n k)) 111));have HG1:QH (w.grownBy W1 none):=by rw[hW1];exact QG
 have HC1:QH (CAt W1 w.heap.size c (.slice a n k)):=by rw[hW1];exact aj w _ _
 have HE:QH (mI W1 g o es):=hE.keep HG1.o;have HS:QH (Slc es):=hs;have HM:QH (jE es c m):=hm;unfold ccs at hW1;unfold cv;clear hE hs hm;go_enter func178,ntmps178;go_upto_region 1 with fail;rw[←hW1];clear hW1;go_wp2_with fail;go_loopw [9,10] (fun i j wr=>∃ x y:Nat,i=.int .i64 x∧j=.int .i64 y∧x≤m∧m≤y∧y≤es.length∧W1.grownBy wr none) (fun i j _=>(intOf j).toNat - (intOf i).toNat)
 case atStart=>exact⟨0,es.length,rfl,rfl,Q0 _,hml,Qj _,aw _ _⟩
 case round =>
  obtain⟨x,y,rfl,rfl,hx,hy,hyl,G⟩:=hrel;have HG:QH (W1.grownBy wr none):=G;clear G
  rcases (show x=y∨x<y from by omega) with hxy | hxy
  ·obtain rfl:x=m:=(by omega);subst hxy;clear hx hy
   rcases (show x=es.length∨x<es.length from by omega) with hxl | hQ
   ·subst hxl;go_upto_region 8 with fail;go_quiet (fail);go_wp2;go_ret2;exact⟨⟨_,rfl⟩,aa (aa HG1.o HG.o) (aA _ _ _)⟩
   ·have hb:(x:Int)<(es.length:Int):=(by omega);have hb':(0:Int)≤(x:Int):=(by omega);obtain⟨e,hent⟩:∃ e,es[x]?=some e:=⟨_,Qg hQ⟩
    obtain⟨a1,a2,a3,hv⟩:=HS.o e (Qm hent);have D:=(HE.o x e hent).keep (aa HG.o (ai _));rw[hv] at D;have CC:=HC1.o.keep (aa HG.o (ai _));have KD:QH (∀ ww,wr.drew.grownBy ww none→C9 ww g (o+x*9) e.h (.slice a1 a2 a3)):=fun ww hh=>D.keep hh;have KC:QH (∀ ww,wr.drew.grownBy ww none→CAt ww w.heap.size c (.slice a n k)):=fun ww hh=>CC.keep hh;have HO:QH (ord e.h c<0↔x<x):=HM.o x e hent;obtain⟨d0,d1,d2,d3,d4,d5,d6,d7,d8⟩:=D;obtain⟨z0,z1,z2,z3,z4,z5,z6,z7,z8⟩:=CC.cells;clear CC hent hv;go_upto_region 8 with fail;go_region_held3 (fun w'=>w'.cell? ⟨g,o+x*9,none⟩=some (.string e.h.nm)∧w'.cell? ⟨g,o+x*9+1,none⟩=some (.int .u8 e.h.su)∧w'.cell? ⟨g,o+x*9+2,none⟩=some (.int .u8 e.h.kd)∧w'.cell? ⟨g,o+x*9+3,none⟩=some (.int .i64 e.h.co)∧w'.cell? ⟨g,o+x*9+4,none⟩=some (.int .i64 e.h.po)∧w'.cell? ⟨g,o+x*9+5,none⟩=some (.int .i64 e.h.he)∧w'.cell? ⟨g,o+x*9+6,none⟩=some (.int .u16 e.h.tr)∧w'.cell? ⟨g,o+x*9+7,none⟩=some (.bool e.h.tk)∧w'.cell? ⟨g,o+x*9+8,none⟩=some (.slice a1 a2 a3)∧w'.cell? ⟨w.heap.size,0,none⟩=some (.string c.nm)∧w'.cell? ⟨w.heap.size,1,none⟩=some (.int .u8 c.su)∧w'.cell? ⟨w.heap.size,2,none⟩=some (.int .u8 c.kd)∧w'.cell? ⟨w.heap.size,3,none⟩=some (.int .i64 c.co)∧w'.cell? ⟨w.heap.size,4,none⟩=some (.int .i64 c.po)∧w'.cell? ⟨w.heap.size,5,none⟩=some (.int .i64 c.he)∧w'.cell? ⟨w.heap.size,6,none⟩=some (.int .u16 c.tr)∧w'.cell? ⟨w.heap.size,7,none⟩=some (.bool c.tk)∧w'.cell? ⟨w.heap.size,8,none⟩=some (.slice a n k)) (first | exact⟨d0,d1,d2,d3,d4,d5,d6,d7,d8,z0,z1,z2,z3,z4,z5,z6,z7,z8⟩ | exact⟨p0,p1,p2,p3,p4,p5,p6,p7,p8,q0,q1,q2,q3,q4,q5,q6,q7,q8⟩) (first | (go_at_call 179;refine(jk e.h c (.slice a1 a2 a3) (.slice a n k) _ ⟨_,_,_,rfl⟩ ⟨_,_,_,rfl⟩).mono ?_;rintro e1 w3 ⟨rfl,g3⟩;have G3:QH (W1.grownBy w3 none):=aa (aa HG.o (ai _)) g3;obtain⟨p0,p1,p2,p3,p4,p5,p6,p7,p8⟩:=KD.o _ g3;obtain⟨q0,q1,q2,q3,q4,q5,q6,q7,q8⟩:=(KC.o _ g3).cells));go_wp2;go_ret2;exact⟨⟨_,rfl⟩,aa HG1.o G3.o⟩
  ·have hxy':(x:Int)<(y:Int):=(by omega);have w1:wrap64 ((x:Int)+(y:Int))=(x:Int)+(y:Int):=(by unfold wrap64;omega);obtain⟨q,hq⟩:∃ q:Nat,((x:Int)+(y:Int)) / 2=(q:Int):=⟨(x+y) / 2,by omega⟩
   have hQ:q<es.length:=(by omega);have hqx:x≤q:=(by omega);have hqy:q<y:=(by omega);have w2:wrap64 ((q:Int)+1)=(q:Int)+1:=(by unfold wrap64;omega);have k0:(0:Int)≤(q:Int):=(by omega);have k1:(q:Int)<(es.length:Int):=(by omega);have HQ:QH (((x:Int)+(y:Int)) / 2=(q:Int)):=hq;clear hq;obtain⟨e,hent⟩:∃ e,es[q]?=some e:=⟨_,Qg hQ⟩
   obtain⟨a1,a2,a3,hv⟩:=HS.o e (Qm hent);have D:=(HE.o q e hent).keep (aa HG.o (ai _));rw[hv] at D;have CC:=HC1.o.keep (aa HG.o (ai _));have KD:QH (∀ ww,wr.drew.grownBy ww none→C9 ww g (o+q*9) e.h (.slice a1 a2 a3)):=fun ww hh=>D.keep hh;have KC:QH (∀ ww,wr.drew.grownBy ww none→CAt ww w.heap.size c (.slice a n k)):=fun ww hh=>CC.keep hh;have HO:QH (ord e.h c<0↔q<m):=HM.o q e hent;obtain⟨d0,d1,d2,d3,d4,d5,d6,d7,d8⟩:=D;obtain⟨z0,z1,z2,z3,z4,z5,z6,z7,z8⟩:=CC.cells;clear CC hent hv;go_upto_region 5 with fail;rw[HQ.o];by_cases hord:ord e.h c<0
   ·have hqm:q<m:=HO.o.1 hord;go_region_held3 (fun w'=>w'.cell? ⟨g,o+q*9,none⟩=some (.string e.h.nm)∧w'.cell? ⟨g,o+q*9+1,none⟩=some (.int .u8 e.h.su)∧w'.cell? ⟨g,o+q*9+2,none⟩=some (.int .u8 e.h.kd)∧w'.cell? ⟨g,o+q*9+3,none⟩=some (.int .i64 e.h.co)∧w'.cell? ⟨g,o+q*9+4,none⟩=some (.int .i64 e.h.po)∧w'.cell? ⟨g,o+q*9+5,none⟩=some (.int .i64 e.h.he)∧w'.cell? ⟨g,o+q*9+6,none⟩=some (.int .u16 e.h.tr)∧w'.cell? ⟨g,o+q*9+7,none⟩=some (.bool e.h.tk)∧w'.cell? ⟨g,o+q*9+8,none⟩=some (.slice a1 a2 a3)∧w'.cell? ⟨w.heap.size,0,none⟩=some (.string c.nm)∧w'.cell? ⟨w.heap.size,1,none⟩=some (.int .u8 c.su)∧w'.cell? ⟨w.heap.size,2,none⟩=some (.int .u8 c.kd)∧w'.cell? ⟨w.heap.size,3,none⟩=some (.int .i64 c.co)∧w'.cell? ⟨w.heap.size,4,none⟩=some (.int .i64 c.po)∧w'.cell? ⟨w.heap.size,5,none⟩=some (.int .i64 c.he)∧w'.cell? ⟨w.heap.size,6,none⟩=some (.int .u16 c.tr)∧w'.cell? ⟨w.heap.size,7,none⟩=some (.bool c.tk)∧w'.cell? ⟨w.heap.size,8,none⟩=some (.slice a n k)) (first | exact⟨d0,d1,d2,d3,d4,d5,d6,d7,d8,z0,z1,z2,z3,z4,z5,z6,z7,z8⟩ | exact⟨p0,p1,p2,p3,p4,p5,p6,p7,p8,q0,q1,q2,q3,q4,q5,q6,q7,q8⟩) (first | (go_at_call 179;refine(jk e.h c (.slice a1 a2 a3) (.slice a n k) _ ⟨_,_,_,rfl⟩ ⟨_,_,_,rfl⟩).mono ?_;rintro e1 w3 ⟨rfl,g3⟩;have G3:QH (W1.grownBy w3 none):=aa (aa HG.o (ai _)) g3;obtain⟨p0,p1,p2,p3,p4,p5,p6,p7,p8⟩:=KD.o _ g3;obtain⟨q0,q1,q2,q3,q4,q5,q6,q7,q8⟩:=(KC.o _ g3).cells));go_wp2_with fail;go_roundw
    case rel=>exact⟨q+1,y,by first | rfl | (rw[w2];rfl),rfl,by omega,hy,hyl,G3.o⟩
    case measure=>first | exact yu hqx hqy | (rw[w2];exact yu hqx hqy)
   ·have hqm:m≤q:=(by have:=mt HO.o.2 hord;omega);have hord':0≤ord e.h c:=(by omega);clear hord;go_region_held3 (fun w'=>w'.cell? ⟨g,o+q*9,none⟩=some (.string e.h.nm)∧w'.cell? ⟨g,o+q*9+1,none⟩=some (.int .u8 e.h.su)∧w'.cell? ⟨g,o+q*9+2,none⟩=some (.int .u8 e.h.kd)∧w'.cell? ⟨g,o+q*9+3,none⟩=some (.int .i64 e.h.co)∧w'.cell? ⟨g,o+q*9+4,none⟩=some (.int .i64 e.h.po)∧w'.cell? ⟨g,o+q*9+5,none⟩=some (.int .i64 e.h.he)∧w'.cell? ⟨g,o+q*9+6,none⟩=some (.int .u16 e.h.tr)∧w'.cell? ⟨g,o+q*9+7,none⟩=some (.bool e.h.tk)∧w'.cell? ⟨g,o+q*9+8,none⟩=some (.slice a1 a2 a3)∧w'.cell? ⟨w.heap.size,0,none⟩=some (.string c.nm)∧w'.cell? ⟨w.heap.size,1,none⟩=some (.int .u8 c.su)∧w'.cell? ⟨w.heap.size,2,none⟩=some (.int .u8 c.kd)∧w'.cell? ⟨w.heap.size,3,none⟩=some (.int .i64 c.co)∧w'.cell? ⟨w.heap.size,4,none⟩=some (.int .i64 c.po)∧w'.cell? ⟨w.heap.size,5,none⟩=some (.int .i64 c.he)∧w'.cell? ⟨w.heap.size,6,none⟩=some (.int .u16 c.tr)∧w'.cell? ⟨w.heap.size,7,none⟩=some (.bool c.tk)∧w'.cell? ⟨w.heap.size,8,none⟩=some (.slice a n k)) (first | exact⟨d0,d1,d2,d3,d4,d5,d6,d7,d8,z0,z1,z2,z3,z4,z5,z6,z7,z8⟩ | exact⟨p0,p1,p2,p3,p4,p5,p6,p7,p8,q0,q1,q2,q3,q4,q5,q6,q7,q8⟩) (first | (go_at_call 179;refine(jk e.h c (.slice a1 a2 a3) (.slice a n k) _ ⟨_,_,_,rfl⟩ ⟨_,_,_,rfl⟩).mono ?_;rintro e1 w3 ⟨rfl,g3⟩;have G3:QH (W1.grownBy w3 none):=aa (aa HG.o (ai _)) g3;obtain⟨p0,p1,p2,p3,p4,p5,p6,p7,p8⟩:=KD.o _ g3;obtain⟨q0,q1,q2,q3,q4,q5,q6,q7,q8⟩:=(KC.o _ g3).cells));go_wp2_with fail;go_roundw
    case rel=>exact⟨x,q,rfl,rfl,hx,hqm,by omega,G3.o⟩
    case measure=>exact BV hqx hqy
theorem kF {t:TypeId} {z:Nat×Nat} (h:w.heap[b]?=some (.cells cs t z)) (hv:cs[i]?=some v):w.setCell ⟨b,i,none⟩ v=w:=by
 have hlt:b<w.heap.size:=(Array.getElem?_eq_some_iff.1 h).1;have hb:w.heap[b]=.cells cs t z:=(Array.getElem?_eq_some_iff.1 h).2
 have hs:cs.setIfInBounds i v=cs:=by
  apply Array.ext_getElem?;intro k;rw[Array.getElem?_setIfInBounds];split
  ·rename_i e;subst e;rw[hv,if_pos (Array.getElem?_eq_some_iff.1 hv).1]
  ·rfl
 unfold World.setCell;cases w with
 | mk heap tape drawn os output =>
  congr 1
  apply Array.ext
  ·simp
  ·intro k h1 h2;simp only[Array.getElem_modify];split
   ·rename_i hk;subst hk;simp at hb;simp[hb,hs]
   ·rfl
def gy (w:World) (b o:Nat) (h:Hd) (v:Value):World:=((((((((w.setCell ⟨b,o,none⟩ (.string h.nm)).setCell ⟨b,o+1,none⟩ (.int .u8 h.su)).setCell ⟨b,o+2,none⟩ (.int .u8 h.kd)).setCell ⟨b,o+3,none⟩ (.int .i64 h.co)).setCell ⟨b,o+4,none⟩ (.int .i64 h.po)).setCell ⟨b,o+5,none⟩ (.int .i64 h.he)).setCell ⟨b,o+6,none⟩ (.int .u16 h.tr)).setCell ⟨b,o+7,none⟩ (.bool h.tk)).setCell ⟨b,o+8,none⟩ v
theorem dc (w:World) (b o:Nat) (h:Hd) (v:Value):w.grownBy (gy w b o h v) (some b):=((((((((al _ b _ _).trans (al _ b _ _)).trans (al _ b _ _)).trans (al _ b _ _)).trans (al _ b _ _)).trans (al _ b _ _)).trans (al _ b _ _)).trans (al _ b _ _)).trans (al _ b _ _)
theorem CAt.st9 {s:Nat} {h0 h:Hd} {v0:Value} (k:CAt w s h0 v0):CAt (((((((((w.setCell ⟨s,0,none⟩ (.string h.nm)).setCell ⟨s,1,none⟩ (.int .u8 h.su)).setCell ⟨s,2,none⟩ (.int .u8 h.kd)).setCell ⟨s,3,none⟩ (.int .i64 h.co)).setCell ⟨s,4,none⟩ (.int .i64 h.po)).setCell ⟨s,5,none⟩ (.int .i64 h.he)).setCell ⟨s,6,none⟩ (.int .u16 h.tr)).setCell ⟨s,7,none⟩ (.bool h.tk)).setCell ⟨s,8,none⟩ v) s h v:=by
 have k0:w.heap[s]?=some (.cells #[(.string h0.nm),(.int .u8 h0.su),(.int .u8 h0.kd),(.int .i64 h0.co),(.int .i64 h0.po),(.int .i64 h0.he),(.int .u16 h0.tr),(.bool h0.tk),v0] 111 (0,0)):=k;clear k;obtain⟨w1,e1⟩:=Qe (w.setCell ⟨s,0,none⟩ (.string h.nm));have k1:w1.heap[s]?=some (.cells #[(.string h.nm),(.int .u8 h0.su),(.int .u8 h0.kd),(.int .i64 h0.co),(.int .i64 h0.po),(.int .i64 h0.he),(.int .u16 h0.tr),(.bool h0.tk),v0] 111 (0,0)):=by rw[e1];exact au k0 0 _
 rw[←e1];clear k0 e1;obtain⟨w2,e2⟩:=Qe (w1.setCell ⟨s,1,none⟩ (.int .u8 h.su));have k2:w2.heap[s]?=some (.cells #[(.string h.nm),(.int .u8 h.su),(.int .u8 h0.kd),(.int .i64 h0.co),(.int .i64 h0.po),(.int .i64 h0.he),(.int .u16 h0.tr),(.bool h0.tk),v0] 111 (0,0)):=by rw[e2];exact au k1 1 _
 rw[←e2];clear k1 e2;obtain⟨w3,e3⟩:=Qe (w2.setCell ⟨s,2,none⟩ (.int .u8 h.kd));have k3:w3.heap[s]?=some (.cells #[(.string h.nm),(.int .u8 h.su),(.int .u8 h.kd),(.int .i64 h0.co),(.int .i64 h0.po),(.int .i64 h0.he),(.int .u16 h0.tr),(.bool h0.tk),v0] 111 (0,0)):=by rw[e3];exact au k2 2 _
 rw[←e3];clear k2 e3;obtain⟨w4,e4⟩:=Qe (w3.setCell ⟨s,3,none⟩ (.int .i64 h.co));have k4:w4.heap[s]?=some (.cells #[(.string h.nm),(.int .u8 h.su),(.int .u8 h.kd),(.int .i64 h.co),(.int .i64 h0.po),(.int .i64 h0.he),(.int .u16 h0.tr),(.bool h0.tk),v0] 111 (0,0)):=by rw[e4];exact au k3 3 _
 rw[←e4];clear k3 e4;obtain⟨w5,e5⟩:=Qe (w4.setCell ⟨s,4,none⟩ (.int .i64 h.po));have k5:w5.heap[s]?=some (.cells #[(.string h.nm),(.int .u8 h.su),(.int .u8 h.kd),(.int .i64 h.co),(.int .i64 h.po),(.int .i64 h0.he),(.int .u16 h0.tr),(.bool h0.tk),v0] 111 (0,0)):=by rw[e5];exact au k4 4 _
 rw[←e5];clear k4 e5;obtain⟨w6,e6⟩:=Qe (w5.setCell ⟨s,5,none⟩ (.int .i64 h.he));have k6:w6.heap[s]?=some (.cells #[(.string h.nm),(.int .u8 h.su),(.int .u8 h.kd),(.int .i64 h.co),(.int .i64 h.po),(.int .i64 h.he),(.int .u16 h0.tr),(.bool h0.tk),v0] 111 (0,0)):=by rw[e6];exact au k5 5 _
 rw[←e6];clear k5 e6;obtain⟨w7,e7⟩:=Qe (w6.setCell ⟨s,6,none⟩ (.int .u16 h.tr));have k7:w7.heap[s]?=some (.cells #[(.string h.nm),(.int .u8 h.su),(.int .u8 h.kd),(.int .i64 h.co),(.int .i64 h.po),(.int .i64 h.he),(.int .u16 h.tr),(.bool h0.tk),v0] 111 (0,0)):=by rw[e7];exact au k6 6 _
 rw[←e7];clear k6 e7;obtain⟨w8,e8⟩:=Qe (w7.setCell ⟨s,7,none⟩ (.bool h.tk));have k8:w8.heap[s]?=some (.cells #[(.string h.nm),(.int .u8 h.su),(.int .u8 h.kd),(.int .i64 h.co),(.int .i64 h.po),(.int .i64 h.he),(.int .u16 h.tr),(.bool h.tk),v0] 111 (0,0)):=by rw[e8];exact au k7 7 _
 rw[←e8];clear k7 e8;obtain⟨w9,e9⟩:=Qe (w8.setCell ⟨s,8,none⟩ v);have k9:w9.heap[s]?=some (.cells #[(.string h.nm),(.int .u8 h.su),(.int .u8 h.kd),(.int .i64 h.co),(.int .i64 h.po),(.int .i64 h.he),(.int .u16 h.tr),(.bool h.tk),v] 111 (0,0)):=by rw[e9];exact au k8 8 _
 rw[←e9];clear k8 e9;exact k9
theorem CAt.s9 {k:Hd} (h:CAt w b k u) (c:Hd) (v:Value):CAt (gy w b 0 c v) b c v:=by
 unfold gy;simp only[Nat.zero_add];exact h.st9
def Nmd (ps:List Pt):Prop:=∀ p∈ps,p.nm.size≤281474976710656
theorem bJ.name {n:Nat} (h:bJ w base (.slice (some ⟨g,0,none⟩) n cap) ps) {k:Nat} {p:Pt} (hp:ps[k]?=some p):w.setCell ⟨g,k*8+7,none⟩ (.string p.nm)=w∧w.frozen? ⟨g,k*8+7,none⟩=false∧w.cell? ⟨g,k*8+7,none⟩=some (.string p.nm):=by
 obtain⟨h1,⟨h2,_⟩ | ⟨g',cap',cur,e,hb,hh,hn,hc,hz,ht⟩⟩:=h
 ·cases h2
 ·injection e with e1 e2 e3;injection e1 with e1;injection e1 with e1 _ _;subst e1;have hk:k<ps.length:=(Qh hp).1
  have hv:cur[k*8+7]?=some (.string p.nm):=by
   have:=iN ps k p hp 7 (by omega);rw[←ht,Qcj (by omega)] at this;simpa [pvs] using this
  exact⟨kF hh hv,by simp[World.frozen?,hh],by simp only[World.cell?,hh];exact hv⟩
theorem EA (h:Hd) (v:Value) (ps:List Pt) (w:World) (hp:da w v ps) (hl:ps.length≤4) (hn:h.nm.size≤281474976710656) (hN:Nmd ps):Calls prog 114 #[cv h v] w fun e w'=>∃ u,e=.returned (cv h u)∧bJ w' w.heap.size u ps∧w.grownBy w' none:=by
 have hb:ps.length*40≤140737488355328:=by omega
 have hm':bl ps.length:=by unfold bl;omega
 have HN:QH (Nmd ps):=hN;obtain⟨a,c,rfl⟩:=hp.form;obtain⟨W2,hW2⟩:=Qe ((w.alloc (.cells (ccs h (.slice a ps.length c)) 111)).alloc (.cells (ccs Hd.none (.slice none 0 0)) 111));have G2:w.grownBy W2 none:=by rw[hW2];exact am QG _
 have A2:CAt W2 w.heap.size h (.slice a ps.length c):=by rw[hW2];exact CAt.keep (aj w _ _) QG
 have Z2:CAt W2 (w.heap.size+1) Hd.none (.slice none 0 0):=by
  have:=aj (w.alloc (.cells (ccs h (.slice a ps.length c)) 111)) (ccs Hd.none (.slice none 0 0)) 111;rw[Qa3] at this;rw[hW2];exact this
 have hs2:W2.heap.size=w.heap.size+2:=by rw[hW2];simp
 have HC:=qH h (.slice a ps.length c) ps W2 (hp.keep G2) hb;have HA2:QH (CAt W2 w.heap.size h (.slice a ps.length c)):=A2;have HZ2:QH (CAt W2 (w.heap.size+1) Hd.none (.slice none 0 0)):=Z2;have HG2:QH (w.grownBy W2 none):=G2;obtain⟨c0,c1,c2,c3,c4,c5,c6,c7,c8⟩:=A2.cells;unfold ccs Hd.none at hW2;clear G2 A2 Z2 hp hN;unfold cv at HC ⊢;go_enter func114,ntmps114;go_upto_region 1 with fail;rw[←hW2];clear hW2;go_upto_region 2 with (first | (go_at_call 180;refine HC.mono ?_;rintro e w3 ⟨u,rfl,o3,g3⟩;obtain⟨a3,k3,rfl⟩:=o3.at.form;have HO3:QH (bJ w3 W2.heap.size (.slice a3 ps.length k3) ps):=o3;have HG3:QH (W2.grownBy w3 none):=g3;have C3:=HA2.o.keep g3;obtain⟨d0,d1,d2,d3,d4,d5,d6,d7,d8⟩:=C3.cells;have df:=fun i=>C3.free i;clear o3 C3 c0 c1 c2 c3 c4 c5 c6 c7 c8) | fail)
 obtain⟨W4,hW4⟩:=Qe (gy w3 w.heap.size 0 h (.slice a3 ps.length k3));have A4:CAt W4 w.heap.size h (.slice a3 ps.length k3):=by rw[hW4];exact(HA2.o.keep HG3.o).s9 h _
 have Z4:CAt W4 (w.heap.size+1) Hd.none (.slice none 0 0):=by rw[hW4];exact(HZ2.o.keep HG3.o).keepR (dc _ _ _ _ _) (by simp)
 have O4:bJ W4 W2.heap.size (.slice a3 ps.length k3) ps:=by rw[hW4];exact HO3.o.keep (dc _ _ _ _ _) (fun x e=>by cases e;omega)
 have G4:w.grownBy W4 none:=by rw[hW4];exact ak (aa HG2.o HG3.o) (dc _ _ _ _ _) (fun x e=>by cases e;exact Qj _)
 unfold gy at hW4;simp only[Nat.zero_add] at hW4;rw[←hW4];clear hW4 d0 d1 d2 d3 d4 d5 d6 d7 d8 df HO3 HG3 g3 HA2 HZ2 HC;have e0:=A4.cells.1;have HA4:QH (CAt W4 w.heap.size h (.slice a3 ps.length k3)):=A4;have HZ4:QH (CAt W4 (w.heap.size+1) Hd.none (.slice none 0 0)):=Z4;have HO4:QH (bJ W4 W2.heap.size (.slice a3 ps.length k3) ps):=O4;have HG4:QH (w.grownBy W4 none):=G4;clear A4 Z4 O4 G4;go_upto_region 3 with (first | (go_at_call 124;refine(lg h.nm hn _).mono ?_;rintro e w5 ⟨rfl,g5⟩;have A5:=HA4.o.keep g5;have f0:=A5.cells.1;have ff:=fun i=>A5.free i;have SS:w5.setCell ⟨w.heap.size,0,none⟩ (.string h.nm)=w5:=kF A5 rfl;have HA5:QH (CAt w5 w.heap.size h (.slice a3 ps.length k3)):=A5;have HZ5:QH (CAt w5 (w.heap.size+1) Hd.none (.slice none 0 0)):=HZ4.o.keep g5;have HO5:QH (bJ w5 W2.heap.size (.slice a3 ps.length k3) ps):=HO4.o.keep g5 (by simp);have HG5:QH (w.grownBy w5 none):=aa HG4.o g5;clear A5 e0) | fail)
 have x8:=HA5.o.cells.2.2.2.2.2.2.2.2;clear ff f0 SS;go_wp2_with fail;go_loopw [13] (fun i wr=>∃ k:Nat,k≤ps.length∧i=.int .i64 k∧CAt wr w.heap.size h (.slice a3 ps.length k3)∧CAt wr (w.heap.size+1) Hd.none (.slice none 0 0)∧bJ wr W2.heap.size (.slice a3 ps.length k3) ps∧w.grownBy wr none) (fun i _=>ps.length - (intOf i).toNat)
 case atStart=>exact⟨0,Q0 _,rfl,HA5.o,HZ5.o,HO5.o,HG5.o⟩
 case round =>
  obtain⟨k,hk,rfl,A,Z,O,G⟩:=hrel;have HA:QH (CAt wr w.heap.size h (.slice a3 ps.length k3)):=A;have HZ:QH (CAt wr (w.heap.size+1) Hd.none (.slice none 0 0)):=Z;have HO:QH (bJ wr W2.heap.size (.slice a3 ps.length k3) ps):=O;have HG:QH (w.grownBy wr none):=G;clear A Z O G HA5 HZ5 HO5 HG5 x8
  rcases (show k=ps.length∨k<ps.length from by omega) with hke | hlt
  ·clear hk hl hb;subst hke;obtain⟨c0,c1,c2,c3,c4,c5,c6,c7,c8⟩:=HA.o.cells;obtain⟨z0,z1,z2,z3,z4,z5,z6,z7,z8⟩:=HZ.o.cells;have zf:=fun i=>HZ.o.free i;simp only[Hd.none] at z0 z1 z2 z3 z4 z5 z6 z7 z8;go_wp2;refine bodyPost_ret (v:=cv h (.slice a3 ps.length k3)) (by simp[results,results114,go_sem,z0,z1,z2,z3,z4,z5,z6,z7,z8,cv]) rfl ⟨.slice a3 ps.length k3,rfl,?_,?_⟩
   ·have:=(HO.o.keep (dc wr (w.heap.size+1) 0 h (.slice a3 ps.length k3)) (fun x e=>by cases e;omega)).big (show w.heap.size≤W2.heap.size by omega);unfold gy at this;simp only[Nat.zero_add] at this;exact this
   ·have:=ak HG.o (dc wr (w.heap.size+1) 0 h (.slice a3 ps.length k3)) (fun x e=>by cases e;omega);unfold gy at this;simp only[Nat.zero_add] at this;exact this
  ·have hlt':(k:Int)<(ps.length:Int):=(by omega);have hk0:(0:Int)≤(k:Int):=(by omega);have hw:=hm'.wrap hlt;obtain⟨p,hp⟩:∃ p,ps[k]?=some p:=⟨_,Qg hlt⟩
   obtain⟨g,rfl⟩:∃ g,a3=some ⟨g,0,none⟩:=by
    rcases HO.o with ⟨_,⟨e,h2⟩ | ⟨g,cap,cur,e,_⟩⟩
    ·rw[h2] at hlt;omega
    ·injection e with e1;exact⟨g,e1⟩
   obtain⟨_,_,n1⟩:=HO.o.name hp;have c8:=HA.o.cells.2.2.2.2.2.2.2.2;have hsz:=HN.o p (Qm hp);have HP:QH (ps[k]?=some p):=hp;clear hp;go_upto_region 6 with fail;go_region_with (first | (go_at_call 124;refine(lg p.nm hsz _).mono ?_;rintro e w6 ⟨rfl,g6⟩;have G6:QH (wr.grownBy w6 none):=aa (ai _) g6;have c86:=(HA.o.keep G6.o).cells.2.2.2.2.2.2.2.2;obtain⟨S6,F6,N6⟩:=(HO.o.keep G6.o (by simp)).name HP.o) | fail)
   all_goals
    go_wp2_with fail;go_roundw
    case rel=>exact⟨k+1,hlt,by first | rfl | (rw[hw];rfl),HA.o.keep G6.o,HZ.o.keep G6.o,HO.o.keep G6.o (by simp),aa HG.o G6.o⟩
    case measure=>first | exact aD hlt | (rw[hw];exact aD hlt)
