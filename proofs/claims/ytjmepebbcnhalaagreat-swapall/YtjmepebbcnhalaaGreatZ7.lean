import Derived.Test.YtjmepebbcnhalaaGreatZ6
import Derived.DeepKeys
import Derived.ChangeKeysEq
import Derived.Deep.MidRow
namespace Go.Proofs.YtjmepebbcnhalaaGreat
open Tryz
set_option maxRecDepth 100000
set_option maxHeartbeats 4000000
open Go.RowKit
variable {w w':World} {b k j:Nat} {es:List Ent} {junk:List Value} {p:Pl} {r a:Int} {ps:List Pt} {v:Value} {ok:Nat→Prop}
def mF (es:List Ent) (n:Nat):Int:=match es[n]? with
 | some e=>e.h.kd
 | none=>0
def ge (es:List Ent) (p:Pt):Int:=if ¬p.vb=7 then 0 else if pos (bL es) p.nm<0 then 6 else if mF es (pos (bL es) p.nm).toNat=2 then 8 else 0
def dV (es:List Ent):List Pt→Int
 | []=>0
 | p :: r=>if ¬ge es p=0 then ge es p else dV es r
def iH (es:List Ent):List Ent→Int
 | []=>0
 | e :: r=>if ¬dV es e.ps=0 then dV es e.ps else iH es r
def ie (p:Pl) (es:List Ent):Int:=if p.shut=true then 7 else iH es es
def dX (p:Pl) (es:List Ent):Pl:=if ie p es=0 then { p with shut:=true } else p
theorem qq (b:Nat) (es:List Ent) (p:Pl) (x:Pt) (w:World) (hB:ee w b es p) (hs:Slc es):Calls prog 127 #[.pointer (some ⟨b,0,none⟩),pv x] w fun e w'=>e=.returned (.int .i64 (ge es x))∧w.grownBy w' none:=by
 obtain⟨wn,vb,wm,ct,su,tr,mr,nm⟩:=x;obtain⟨W1,hW1⟩:=Qe (w.alloc (.cells #[.int .u8 wn,.int .u8 vb,.int .u8 wm,.int .i64 ct,.int .u8 su,.int .u8 tr,.int .u8 mr,.string nm] 62));have HG1:QH (w.grownBy W1 none):=by rw[hW1];exact QG
 have A:W1.heap[w.heap.size]?=some (.cells #[.int .u8 wn,.int .u8 vb,.int .u8 wm,.int .i64 ct,.int .u8 su,.int .u8 tr,.int .u8 mr,.string nm] 62 (0,0)):=by rw[hW1];exact aj w _ _
 have HB1:QH (ee W1 b es p):=hB.keep HG1.o;have a1:=ae A 1;have a7:=ae A 7;clear A hB;unfold pv;simp only;by_cases h7:vb=7
 case neg =>
  have e1:ge es ⟨wn,vb,wm,ct,su,tr,mr,nm⟩=0:=if_pos h7;rw[e1];have h7':(vb != 7)=true:=by simpa using h7
  clear e1 h7;go_enter func127,ntmps127;go_upto_region 1 with fail;rw[←hW1];clear hW1;go_wp2;go_ret;exact⟨rfl,HG1.o⟩
 case pos =>
  have e0:ge es ⟨wn,vb,wm,ct,su,tr,mr,nm⟩=if pos (bL es) nm<0 then 6 else if mF es (pos (bL es) nm).toNat=2 then 8 else 0:=if_neg (by simp[h7]);have HP:=qC b es p nm W1 HB1.o hs;obtain⟨q,hq⟩:=Qe (pos (bL es) nm);have hq1:=mT (bL es) nm;rw[rm] at hq1;rw[←hq] at HP e0 hq1;rw[e0];subst h7;have hl:=HB1.o.len;clear hq e0;by_cases h0:q<0
  ·rw[if_pos h0];clear hq1 hl;go_enter func127,ntmps127;go_upto_region 1 with fail;rw[←hW1];clear hW1;go_wp2_with (first | (go_at_call 177;refine HP.mono ?_;rintro e w2 ⟨rfl,g2⟩) | fail)
   go_ret;exact⟨rfl,aa HG1.o g2⟩
  ·rw[if_neg h0];obtain⟨n,rfl⟩:=Qbr (show 0≤q by omega);have hn:n<es.length:=(by omega);obtain⟨e,he⟩:∃ e,es[n]?=some e:=⟨_,Qg hn⟩
   have ek:mF es ((n:Int).toNat)=e.h.kd:=(by show mF es n=_;unfold mF;rw[he]);rw[ek];have n0:(0:Int)≤(n:Int):=(by omega);have n6:(n:Int)<64:=by omega
   have HK:QH (∀ W2,W1.grownBy W2 none→W2.cell? ⟨b,n*9+2,none⟩=some (.int .u8 e.h.kd)):=fun W2 g=>by
    have:=((HB1.o.keep g).row n e he).c2;rwa [Qa8] at this
   clear ek he hn hq1 hl h0;by_cases h2:e.h.kd=2
   ·rw[if_pos h2];have h2':(e.h.kd == 2)=true:=(by simpa using h2);clear h2;go_enter func127,ntmps127;go_upto_region 1 with fail;rw[←hW1];clear hW1;go_wp2_with (first | (go_at_call 177;refine HP.mono ?_;rintro e w2 ⟨rfl,g2⟩;have kk:=HK.o _ g2) | fail)
    go_ret;exact⟨rfl,aa HG1.o g2⟩
   ·rw[if_neg h2];have h2':(e.h.kd == 2)=false:=(by simpa using h2);clear h2;go_enter func127,ntmps127;go_upto_region 1 with fail;rw[←hW1];clear hW1;go_wp2_with (first | (go_at_call 177;refine HP.mono ?_;rintro e w2 ⟨rfl,g2⟩;have kk:=HK.o _ g2) | fail)
    go_ret;exact⟨rfl,aa HG1.o g2⟩
theorem BkJ.shutIt (h:BkJ w b es junk p):BkJ (w.setCell ⟨b,577,none⟩ (.bool true)) b es junk { p with shut:=true }:=by
 refine⟨?_,h.fit,h.nine,h.five⟩;rw[au h.lies,Qa6]
 congr 2
 unfold jU plc;have h1:=h.fit;rw[Qb6 _ _ (by rw[aP];omega),Qb6 _ _ (by rw[aP];omega),aP,show 577 - es.length*9 - junk.length=1 by omega];rfl
def mJ (es:List Ent) (k:Nat) (r:Int):Prop:=iH es (es.drop k)=r
def iz (es:List Ent) (ps:List Pt) (j:Nat) (r:Int):Prop:=dV es (ps.drop j)=r
theorem qA {e:Ent} (h:mJ es k r) (he:es[k]?=some e):(if ¬dV es e.ps=0 then dV es e.ps else iH es (es.drop (k+1)))=r:=by
 unfold mJ at h;rw[Qb7 (Qh he).1,(Qh he).2] at h;exact h
theorem ny {x:Pt} (h:iz es ps j r) (hx:ps[j]?=some x):(if ¬ge es x=0 then ge es x else dV es (ps.drop (j+1)))=r:=by
 unfold iz at h;rw[Qb7 (Qh hx).1,(Qh hx).2] at h;exact h
theorem BB (ok:Nat→Prop) (b:Nat) (es:List Ent) (p:Pl) (w:World) (hB:ee w b es p) (hG:dA ok w es) (hL:∀ e∈es,e.ps.length≤4):Calls prog 55 #[.pointer (some ⟨b,0,none⟩)] w fun e w'=>e=.returned (.int .i64 (ie p es))∧ee w' b es (dX p es)∧w.grownBy w' (some b):=by
 have HB:QH (ee w b es p):=hB;have HGd:QH (dA ok w es):=hG;have HLl:QH (∀ e∈es,e.ps.length≤4):=hL;have HSl:=hG.slc;have HR:=js b es.length p w hB.flags;have hl64:=hB.len;have HLi:=l0 b es.length hl64 p w hB.flags;have hm':bl es.length:=by unfold bl;omega
 clear hB hG hL;cases hs:p.shut with
 | true =>
  have e1:ie p es=7:=if_pos hs;have e2:dX p es=p:=if_neg (by rw[e1];decide);rw[e1,e2];rw[hs] at HR;clear e1 e2;go_enter func55,ntmps55;go_wp2_with (first | (go_at_call 110;refine HR.mono ?_;rintro e w1 ⟨rfl,h1⟩;obtain rfl:w=w1:=h1.symm) | fail)
  go_ret;exact⟨rfl,HB.o,aw _ _⟩
 | false =>
  rw[hs] at HR;have e1:ie p es=iH es es:=if_neg (by simp[hs]);obtain⟨r,hr⟩:∃ r,iH es es=r:=⟨_,rfl⟩
  have HE:QH (dX p es=if r=0 then { p with shut:=true } else p):=by unfold QH dX;rw[e1,hr]
  have H0:QH (mJ es 0 r):=hr;rw[e1,hr];clear e1 hr;go_enter func55,ntmps55;go_wp2_with (first | (go_at_call 110;refine HR.mono ?_;rintro e w1 ⟨rfl,h1⟩;obtain rfl:w=w1:=h1.symm) | (go_at_call 126;refine HLi.mono ?_;rintro e w1 ⟨rfl,g1,_⟩;have HG1:QH (w.grownBy w1 none):=g1;clear g1) | fail)
  go_loopw [17] (fun i wr=>∃ k:Nat,k≤es.length∧i=.int .i64 k∧mJ es k r∧w.grownBy wr none) (fun i _=>es.length - (intOf i).toNat)
  case atStart=>exact⟨0,Q0 _,rfl,H0.o,HG1.o⟩
  case round =>
   obtain⟨k,hk,rfl,R,G⟩:=hrel;have HG:QH (w.grownBy wr none):=G;have HQ:QH (mJ es k r):=R;clear G R H0 HG1
   rcases (show k=es.length∨k<es.length from by omega) with hke | hlt
   ·have e:r=0:=(by have:=HQ.o;unfold mJ at this;rw[hke,Qbf] at this;exact this.symm);subst e;subst hke;have JJ:=HB.o.keep HG.o;obtain⟨junk,J⟩:=JJ;have s1:=J.flags.shut;have sf:=J.free 577;have HJ:QH (BkJ wr b es junk p):=J;clear J hk hl64 HQ;go_wp2;go_ret;refine⟨rfl,?_,bi HG.o (al _ _ _ _)⟩;rw[HE.o];simp only[if_true];exact⟨junk,HJ.o.shutIt⟩
   ·have hlt':(k:Int)<(es.length:Int):=(by omega);have hk0:(0:Int)≤(k:Int):=(by omega);have hw:=hm'.wrap hlt;obtain⟨e,he⟩:∃ e,es[k]?=some e:=⟨_,Qg hlt⟩
    have HST:QH ((if ¬dV es e.ps=0 then dV es e.ps else iH es (es.drop (k+1)))=r):=qA HQ.o he;have PS:=(HGd.o e (Qm he)).1.keep HG.o;have hp4:=HLl.o e (Qm he);have D:=(HB.o.keep HG.o).row k e he;rw[Qa8] at D;obtain⟨hd,v,ps⟩:=e;simp only at HST PS hp4 D;obtain⟨a,c,rfl⟩:=PS.form;obtain⟨d0,d1,d2,d3,d4,d5,d6,d7,d8⟩:=D;obtain⟨W2,hW2⟩:=Qe (wr.alloc (.cells (ccs hd (.slice a ps.length c)) 111));have HW2:QH (wr.grownBy W2 none):=(by rw[hW2];exact QG);have HC2:QH (CAt W2 wr.heap.size hd (.slice a ps.length c)):=(by rw[hW2];exact aj wr _ _);have HPS:QH (da W2 (.slice a ps.length c) ps):=PS.keep HW2.o;have hmp:bl ps.length:=(by unfold bl;omega);unfold ccs at hW2;clear he PS HQ;go_upto_region 7 with fail;rw[←hW2];have z8:=HC2.o.cells.2.2.2.2.2.2.2.2;clear hW2 d0 d1 d2 d3 d4 d5 d6 d7 d8;obtain⟨q,hq⟩:∃ q,dV es ps=q:=⟨_,rfl⟩
    rw[hq] at HST;have HQ0:QH (iz es ps 0 q):=hq;clear hq;obtain⟨wo,ho⟩:=Qe (wr);subst ho;go_wp2_with fail;go_loopw [24] (fun i wr2=>∃ j:Nat,j≤ps.length∧i=.int .i64 j∧iz es ps j q∧W2.grownBy wr2 none) (fun i _=>ps.length - (intOf i).toNat)
    case atStart=>exact⟨0,Q0 _,rfl,HQ0.o,aw _ _⟩
    case round =>
     obtain⟨j,hj,rfl,R2,G2⟩:=hrel;have HG2:QH (W2.grownBy wr none):=G2;have HQ2:QH (iz es ps j q):=R2;clear R2 G2 HQ0;have HGw:QH (w.grownBy wr none):=aa (aa HG.o HW2.o) HG2.o
     rcases (show j=ps.length∨j<ps.length from by omega) with hje | hjt
     ·have e:q=0:=(by have:=HQ2.o;unfold iz at this;rw[hje,Qbf] at this;exact this.symm);have HN:QH (mJ es (k+1) r):=(by have:=HST.o;rw[e] at this;exact this);subst hje;clear HST HQ2 hj e hp4;go_wp2_with fail;go_roundw
      case rel=>exact⟨k+1,hlt,by first | rfl | (rw[hw];rfl),HN.o,HGw.o⟩
      case measure=>first | exact aD hlt | (rw[hw];exact aD hlt)
     ·have hjt':(j:Int)<(ps.length:Int):=(by omega);have hj0:(0:Int)≤(j:Int):=(by omega);have hwj:=hmp.wrap hjt;obtain⟨g,o,cap2,ev,PA⟩:=HPS.o.part (by omega);injection ev with e1 _ e3;subst e1;subst e3;obtain⟨x,hx⟩:∃ x,ps[j]?=some x:=⟨_,Qg hjt⟩
      have HSTP:QH ((if ¬ge es x=0 then ge es x else dV es (ps.drop (j+1)))=q):=ny HQ2.o hx;obtain⟨p0,p1,p2,p3,p4,p5,p6,p7⟩:=(PA j x hx).keep HG2.o;have HB3:QH (∀ W3,wr.grownBy W3 none→ee W3 b es p):=fun W3 g3=>HB.o.keep (aa HGw.o g3);clear PA hx HQ2;obtain⟨x0,x1,x2,x3,x4,x5,x6,x7⟩:=x;simp only at p0 p1 p2 p3 p4 p5 p6 p7;obtain⟨W3,hW3⟩:=Qe (wr.alloc (.cells #[.int .u8 x0,.int .u8 x1,.int .u8 x2,.int .i64 x3,.int .u8 x4,.int .u8 x5,.int .u8 x6,.string x7] 62));have HW3:QH (wr.grownBy W3 none):=(by rw[hW3];exact QG);have A3:W3.heap[wr.heap.size]?=some (.cells #[.int .u8 x0,.int .u8 x1,.int .u8 x2,.int .i64 x3,.int .u8 x4,.int .u8 x5,.int .u8 x6,.string x7] 62 (0,0)):=(by rw[hW3];exact aj wr _ _);have HCC:=qq b es p ⟨x0,x1,x2,x3,x4,x5,x6,x7⟩ W3 (HB3.o _ HW3.o) HSl;unfold pv at HCC;simp only at HCC;obtain⟨t,ht⟩:∃ t,ge es ⟨x0,x1,x2,x3,x4,x5,x6,x7⟩=t:=⟨_,rfl⟩
      rw[ht] at HCC HSTP;clear ht;go_upto_region 10 with fail;rw[←hW3];clear hW3 p0 p1 p2 p3 p4 p5 p6 p7;have y0:=ae A3 0;have y1:=ae A3 1;have y2:=ae A3 2;have y3:=ae A3 3;have y4:=ae A3 4;have y5:=ae A3 5;have y6:=ae A3 6;have y7:=ae A3 7;clear A3;by_cases ht0:t=0
      ·have HN:QH (iz es ps (j+1) q):=(by have:=HSTP.o;rw[if_neg (by simp[ht0])] at this;exact this);have ht':(t != 0)=false:=(by simp[ht0]);subst ht0;clear HSTP;go_wp2_with (first | (go_at_call 127;refine HCC.mono ?_;rintro e w4 ⟨rfl,g4⟩;have HG4:QH (W2.grownBy w4 none):=aa (aa HG2.o HW3.o) g4) | fail)
       go_roundw
       case rel=>exact⟨j+1,hjt,by first | rfl | (rw[hwj];rfl),HN.o,HG4.o⟩
       case measure=>first | exact aD hjt | (rw[hwj];exact aD hjt)
      ·have e1:t=q:=(by have:=HSTP.o;rw[if_pos ht0] at this;exact this);have e2:q=r:=(by have:=HST.o;rw[if_pos (by rw[←e1];exact ht0)] at this;exact this);have ht':(t != 0)=true:=(by simpa using ht0);have HE':QH (dX p es=p):=(by have:=HE.o;rw[if_neg (by rw[←e2,←e1];exact ht0)] at this;exact this);have HT:QH (t=r):=e1.trans e2;clear HSTP HST HE e1 e2 ht0;go_wp2_with (first | (go_at_call 127;refine HCC.mono ?_;rintro e w4 ⟨rfl,g4⟩;have HG4:QH (wr.grownBy w4 none):=aa HW3.o g4) | fail)
       go_ret;refine⟨aO HT.o,?_,bi (aa HGw.o HG4.o) (aw _ _)⟩;rw[HE'.o];exact HB3.o _ HG4.o
set_option maxHeartbeats 2000000
def nw (p:Pl) (es:List Ent) (n:Int):Prop:=p.shut=true∧1≤n∧n≤es.length
theorem It (v:Value) (n:Int) (w:World) (h:pE w v):Calls prog 189 #[v,.int .i64 n] w fun e w'=>e=.returned (.tuple #[cv Hd.none (.slice none 0 0),.int .i64 1])∧w.grownBy w' none:=by
 obtain⟨W1,hW1⟩:=Qe (w.alloc (.cells (ccs Hd.none (.slice none 0 0)) 111));have HG1:QH (w.grownBy W1 none):=by rw[hW1];exact QG
 have HC1:QH (CAt W1 w.heap.size Hd.none (.slice none 0 0)):=by rw[hW1];exact aj w _ _
 have H:QH (pE W1 v):=h.keep HG1.o;obtain⟨z0,z1,z2,z3,z4,z5,z6,z7,z8⟩:=HC1.o.cells;have zf:=fun i=>HC1.o.free i;unfold ccs Hd.none at hW1;simp only[Hd.none] at z0 z1 z2 z3 z4 z5 z6 z7 z8;clear h;go_enter func189,ntmps189;go_upto_region 1 with fail;rw[←hW1];clear hW1;go_wp2_with (first | (go_at_call 128;refine(Au _ _ H.o).mono ?_;rintro e w1 ⟨rfl,h1⟩;obtain rfl:W1=w1:=h1.symm) | fail)
 refine bodyPost_ret (v:=.tuple #[cv Hd.none (.slice none 0 0),.int .i64 1]) (by simp[results,results189,go_sem,z0,z1,z2,z3,z4,z5,z6,z7,z8,cv,Hd.none]) rfl ⟨rfl,?_⟩;have:=ak HG1.o (dc W1 w.heap.size 0 Hd.none (.slice none 0 0)) (fun x e=>by cases e;exact Qj _);unfold gy Hd.none at this;simp only[Nat.zero_add] at this;exact this
theorem GY (b:Nat) (es:List Ent) (p:Pl) (n:Int) (w:World) (hB:ee w b es p) (hn:¬nw p es n):Calls prog 189 #[.pointer (some ⟨b,0,none⟩),.int .i64 n] w fun e w'=>e=.returned (.tuple #[cv Hd.none (.slice none 0 0),.int .i64 6])∧w.grownBy w' none:=by
 obtain⟨W1,hW1⟩:=Qe (w.alloc (.cells (ccs Hd.none (.slice none 0 0)) 111));have HG1:QH (w.grownBy W1 none):=by rw[hW1];exact QG
 have HC1:QH (CAt W1 w.heap.size Hd.none (.slice none 0 0)):=by rw[hW1];exact aj w _ _
 have HB1:QH (ee W1 b es p):=hB.keep HG1.o;have HF:=gM b es.length p W1 HB1.o.flags;have s1:=HB1.o.flags.shut;have s2:=HB1.o.flags.count;obtain⟨z0,z1,z2,z3,z4,z5,z6,z7,z8⟩:=HC1.o.cells;have zf:=fun i=>HC1.o.free i;unfold ccs Hd.none at hW1;simp only[Hd.none] at z0 z1 z2 z3 z4 z5 z6 z7 z8;have LAST:QH (w.grownBy (gy W1 w.heap.size 0 Hd.none (.slice none 0 0)) none):=ak HG1.o (dc W1 w.heap.size 0 Hd.none (.slice none 0 0)) (fun x e=>by cases e;exact Qj _);unfold gy Hd.none at LAST;simp only[Nat.zero_add] at LAST;unfold nw at hn;clear hB;cases hs:p.shut with
 | false =>
  rw[hs] at s1;clear hn;go_enter func189,ntmps189;go_upto_region 1 with fail;rw[←hW1];clear hW1;go_wp2_with (first | (go_at_call 128;refine HF.mono ?_;rintro e w1 ⟨rfl,h1⟩;obtain rfl:W1=w1:=h1.symm) | fail)
  refine bodyPost_ret (v:=.tuple #[cv Hd.none (.slice none 0 0),.int .i64 6]) (by simp[results,results189,go_sem,z0,z1,z2,z3,z4,z5,z6,z7,z8,cv,Hd.none]) rfl ⟨rfl,LAST.o⟩
 | true =>
  rw[hs] at s1;by_cases h1:n<1
  ·clear hn;go_enter func189,ntmps189;go_upto_region 1 with fail;rw[←hW1];clear hW1;go_wp2_with (first | (go_at_call 128;refine HF.mono ?_;rintro e w1 ⟨rfl,h1⟩;obtain rfl:W1=w1:=h1.symm) | fail)
   refine bodyPost_ret (v:=.tuple #[cv Hd.none (.slice none 0 0),.int .i64 6]) (by simp[results,results189,go_sem,z0,z1,z2,z3,z4,z5,z6,z7,z8,cv,Hd.none]) rfl ⟨rfl,LAST.o⟩
  ·have h2:(es.length:Int)<n:=by
    have:¬(1≤n∧n≤es.length):=fun h=>hn ⟨hs,h⟩;omega
   have h1':1≤n:=(by omega);clear hn h1;go_enter func189,ntmps189;go_upto_region 1 with fail;rw[←hW1];clear hW1;go_wp2_with (first | (go_at_call 128;refine HF.mono ?_;rintro e w1 ⟨rfl,h1⟩;obtain rfl:W1=w1:=h1.symm) | fail)
   refine bodyPost_ret (v:=.tuple #[cv Hd.none (.slice none 0 0),.int .i64 6]) (by simp[results,results189,go_sem,z0,z1,z2,z3,z4,z5,z6,z7,z8,cv,Hd.none]) rfl ⟨rfl,LAST.o⟩
theorem Ip (ok:Nat→Prop) (b:Nat) (es:List Ent) (p:Pl) (m:Nat) (e0:Ent) (w:World) (hB:ee w b es p) (hG:dA ok w es) (hs:p.shut=true) (he:es[m]?=some e0) (hl:e0.ps.length≤4):Calls prog 189 #[.pointer (some ⟨b,0,none⟩),.int .i64 ((m:Int)+1)] w fun e w'=>∃ u,e=.returned (.tuple #[cv e0.h u,.int .i64 0])∧bJ w' w.heap.size u e0.ps∧w.grownBy w' none:=by
 obtain⟨W1,hW1⟩:=Qe (w.alloc (.cells (ccs Hd.none (.slice none 0 0)) 111));have HG1:QH (w.grownBy W1 none):=by rw[hW1];exact QG
 have HC1:QH (CAt W1 w.heap.size Hd.none (.slice none 0 0)):=by rw[hW1];exact aj w _ _
 have hS1:W1.heap.size=w.heap.size+1:=by rw[hW1];simp
 have HB1:QH (ee W1 b es p):=hB.keep HG1.o;have HF:=gM b es.length p W1 HB1.o.flags;have s1:=HB1.o.flags.shut;have s2:=HB1.o.flags.count;rw[hs] at s1;have hm:m<es.length:=(Qh he).1;have h64:=HB1.o.len;have PS:=(hG e0 (Qm he)).1.keep HG1.o;have D:=HB1.o.row m e0 he;rw[Qa8] at D;obtain⟨hd,v,ps⟩:=e0;simp only at PS hl D ⊢;obtain⟨a,c,rfl⟩:=PS.form;obtain⟨d0,d1,d2,d3,d4,d5,d6,d7,d8⟩:=D;have HCP:=qH hd (.slice a ps.length c) ps W1 PS (by omega);unfold cv at HCP ⊢;unfold ccs Hd.none at hW1;have q1:1≤(m:Int)+1:=by omega
 have q2:(m:Int)+1≤(es.length:Int):=by omega
 have q3:wrap64 ((m:Int)+1 - 1)=(m:Int):=by unfold wrap64;omega
 have q4:(0:Int)≤(m:Int):=by omega
 have q5:(m:Int)<64:=by omega
 clear hB hG he hm h64 PS hl;go_enter func189,ntmps189;go_upto_region 1 with fail;rw[←hW1];clear hW1;go_wp2_with (first | (go_at_call 128;refine HF.mono ?_;rintro e w1 ⟨rfl,h1⟩;obtain rfl:W1=w1:=h1.symm) | (go_at_call 180;refine HCP.mono ?_;rintro e w2 ⟨u,rfl,o2,g2⟩;obtain⟨a2,k2,rfl⟩:=o2.at.form;have HO2:QH (bJ w2 W1.heap.size (.slice a2 ps.length k2) ps):=o2;have HG2:QH (w.grownBy w2 none):=aa HG1.o g2;have C2:=HC1.o.keep g2;obtain⟨z0,z1,z2,z3,z4,z5,z6,z7,z8⟩:=C2.cells;have zf:=fun i=>C2.free i;simp only[Hd.none] at z0 z1 z2 z3 z4 z5 z6 z7 z8;clear o2 C2 d0 d1 d2 d3 d4 d5 d6 d7 d8) | fail)
 refine bodyPost_ret (v:=.tuple #[cv hd (.slice a2 ps.length k2),.int .i64 0]) (by simp[results,results189,go_sem,z0,z1,z2,z3,z4,z5,z6,z7,z8,cv]) rfl ⟨.slice a2 ps.length k2,rfl,?_,?_⟩
 ·have:=(HO2.o.keep (dc w2 w.heap.size 0 hd (.slice a2 ps.length k2)) (fun x e=>by cases e;omega)).big (show w.heap.size≤W1.heap.size by omega);unfold gy at this;simp only[Nat.zero_add] at this;exact this
 ·have:=ak HG2.o (dc w2 w.heap.size 0 hd (.slice a2 ps.length k2)) (fun x e=>by cases e;exact Qj _);unfold gy at this;simp only[Nat.zero_add] at this;exact this
structure Pl.fine (p:Pl):Prop where
 nine:p.nms.length=9
 five:p.mks.length=5
 nms:∀ s∈p.nms,s.size≤20
 mks:∀ m∈p.mks,0≤m.mi∧m.mi≤4∧-9≤m.po∧m.po≤9∧-9≤m.he∧m.he≤9∧m.nm.size≤20
theorem BkJ.range (h:BkJ w b es junk p):w.rangeAt b 576 (plc es.length p):=fun j v hv=>by
 rw[h.tail,hv]
theorem iL.keep {n:Nat} (h:iL w b n p) (g:w.grownBy w' none):iL w' b n p:=⟨g.cell h.made (by simp),g.cell h.shut (by simp),g.cell h.count (by simp)⟩
theorem pE.form (h:pE w v):∃ a,v=.pointer a:=by
 rcases h with rfl | ⟨b,rfl,_⟩
 ·exact⟨_,rfl⟩
 ·exact⟨_,rfl⟩
structure eD (ok:Nat→Prop) (w:World) (b:Nat) (es:List Ent) (p:Pl):Prop where
 lies:ee w b es p
 good:dA ok w es
 srt:Srt es
 fine:p.fine
 may:∀ e∈es,gi e.cd=0
theorem eD.keep (h:eD ok w b es p) (g:w.grownBy w' none):eD ok w' b es p:=⟨h.lies.keep g,h.good.keep g,h.srt,h.fine,h.may⟩
theorem eD.keepR {r:Option Nat} (h:eD ok w b es p) (g:w.grownBy w' r) (hb:some b≠r) (hr:∀ k,ok k→some k≠r):eD ok w' b es p:=⟨h.lies.keepR g hb,h.good.keepR g hr,h.srt,h.fine,h.may⟩
theorem eD.parts (h:eD ok w b es p):∀ e∈es,e.ps.length≤4:=fun e he=>(jW (h.may e he)).2.2.1
theorem eD.lt (h:eD ok w b es p):b<w.heap.size:=by obtain⟨j,J⟩:=h.lies;exact aY J.lies
theorem vK:iQ.fine:=⟨rfl,rfl,fun s hs=>by simp[iQ] at hs;rw[hs];decide,fun m hm=>by simp[iQ] at hm;rw[hm];decide⟩
theorem bnew (ok:Nat→Prop) (w:World):Calls prog 48 #[] w fun e w'=>e=.returned (.pointer (some ⟨w.heap.size,0,none⟩))∧eD ok w' w.heap.size [] iQ∧w.grownBy w' none∧w'.heap.size=w.heap.size+1 :=
 (Ea w).mono fun e w' ⟨h1,h2,h3,h4⟩=>⟨h1,⟨h2,fun e he=>by simp at he,by unfold Srt;exact List.Pairwise.nil,vK,fun e he=>by simp at he⟩,h3,h4⟩
theorem AE {e:Ent} (h:e∈es):e.h.nm∈bL es:=List.mem_map.2 ⟨e,h,rfl⟩
theorem Ik (ok:Nat→Prop) (b:Nat) (es:List Ent) (p:Pl) (h:Hd) (v:Value) (ps:List Pt) (w:World) (B:eD ok w b es p) (hok:¬ok b) (hnew:∀ k,w.heap.size≤k→ok k) (hp:da w v ps) (hm:bl ps.length):Calls prog 50 #[.pointer (some ⟨b,0,none⟩),cv h v] w fun e w'=>∃ u,e=.returned (.int .i64 (caE p es (h.with ps)))∧eD ok w' b (if caE p es (h.with ps)=0 then ins es ⟨h,u,ps⟩ else es) p∧w.grownBy w' (some b):=by
 refine(Ck ok b es p h v ps w B.lies B.good B.srt hok hp hm).mono ?_;rintro e w' ⟨u,he,h1,h2,h3⟩;have G2:=h2.mono (ok':=ok) (fun k hk=>hk.elim id (hnew k));refine⟨u,he,?_,h3⟩;by_cases h0:caE p es (h.with ps)=0
 ·rw[if_pos h0] at h1 G2 ⊢
  have hc:gi (h.with ps)=0∧pos (bL es) h.nm<0:=by
   unfold caE at h0;split at h0
   ·omega
   ·split at h0
    ·exact absurd h0 (by assumption)
    ·rename_i hq;split at h0
     ·omega
     ·rename_i hz;exact⟨by simpa using hq,Int.not_le.1 hz⟩
  refine⟨h1,G2,Ey es _ B.srt (fun x hx e=>sl hc.2 (e ▸ AE hx)),B.fine,fun x hx=>?_⟩
  rcases (mN es _ x).1 hx with rfl | hx
  ·exact hc.1
  ·exact B.may x hx
 ·rw[if_neg h0] at h1 G2 ⊢;exact⟨h1,G2,B.srt,B.fine,B.may⟩
theorem Da (h:p.fine) (m:Mk):(maP p m).fine:=by
 unfold maP;by_cases h0:maE p m=0
 ·rw[if_pos h0]
  have hn:(0≤m.mi∧m.mi≤4∧-9≤m.po∧m.po≤9∧-9≤m.he∧m.he≤9)∧m.nm.size≤20:=by
   unfold maE at h0;split at h0
   ·omega
   ·split at h0
    ·omega
    ·rename_i hr;split at h0
     ·omega
     ·rename_i hz
      have hn:aS m.nm.data.toList=true:=by cases hq:aS m.nm.data.toList with
       | true=>rfl
       | false=>exact absurd hq hz
      have k1:fF m.po=true:=by cases hq:fF m.po with
       | true=>rfl
       | false=>exact absurd (Or.inr (Or.inr (Or.inl hq))) hr
      have k2:fF m.he=true:=by cases hq:fF m.he with
       | true=>rfl
       | false=>exact absurd (Or.inr (Or.inr (Or.inr hq))) hr
      simp only[fF,Bool.and_eq_true,decide_eq_true_eq] at k1 k2;refine⟨⟨by omega,by omega,k1.1,k1.2,k2.1,k2.2⟩,?_⟩;rw[Lib.size_eq];exact(iW hn).2
  refine⟨h.nine,by simpa using h.five,h.nms,fun x hx=>?_⟩
  rcases Qcf hx with hx | rfl
  ·exact h.mks x hx
  ·exact⟨hn.1.1,hn.1.2.1,hn.1.2.2.1,hn.1.2.2.2.1,hn.1.2.2.2.2.1,hn.1.2.2.2.2.2,hn.2⟩
 ·rw[if_neg h0];exact h
theorem Io (ok:Nat→Prop) (b:Nat) (es:List Ent) (p:Pl) (m:Mk) (w:World) (B:eD ok w b es p) (hok:¬ok b):Calls prog 53 #[.pointer (some ⟨b,0,none⟩),mv m] w fun e w'=>e=.returned (.int .i64 (maE p m))∧eD ok w' b es (maP p m)∧w.grownBy w' (some b) :=
 (BH b es p m w B.lies).mono fun e w' ⟨h1,h2,h3⟩=>⟨h1,⟨h2,B.good.keepR h3 (fun k hk e=>by cases e;exact hok hk),B.srt,Da B.fine m,B.may⟩,h3⟩
theorem xE (h:p.fine) (es:List Ent):(dX p es).fine:=by
 unfold dX;split
 ·exact⟨h.nine,h.five,h.nms,h.mks⟩
 ·exact h
theorem Ig (ok:Nat→Prop) (b:Nat) (es:List Ent) (p:Pl) (w:World) (B:eD ok w b es p) (hok:¬ok b):Calls prog 55 #[.pointer (some ⟨b,0,none⟩)] w fun e w'=>e=.returned (.int .i64 (ie p es))∧eD ok w' b es (dX p es)∧w.grownBy w' (some b) :=
 (BB ok b es p w B.lies B.good B.parts).mono fun e w' ⟨h1,h2,h3⟩=>⟨h1,⟨h2,B.good.keepR h3 (fun k hk e=>by cases e;exact hok hk),B.srt,xE B.fine es,B.may⟩,h3⟩
set_option maxHeartbeats 4000000
theorem aM (u:Bool) (x m:Int) (w:World):Calls prog 248 #[.bool u,.int .i64 x,.int .i64 m] w fun e w'=>e=.returned (.bool (bH u x m))∧w'=w:=by
 cases u with
 | false =>
  rw[show bH false x m=decide (x=0) from rfl];by_cases h:x=0
  ·subst h;go_enter func248,ntmps248;go_wp2;go_ret;exact⟨rfl,rfl⟩
  ·have hb:=aW h;rw[Qx h];clear h;go_enter func248,ntmps248;go_wp2;go_ret;exact⟨aL (by first | rfl | exact hb),rfl⟩
 | true =>
  rw[show bH true x m=(decide (1≤x) && decide (x≤m)) from rfl];by_cases h:1≤x
  ·go_enter func248,ntmps248;go_wp2;go_ret;exact⟨aL (by first | rfl | simp[h]),rfl⟩
  ·go_enter func248,ntmps248;go_wp2;go_ret;exact⟨aL (by simp;omega),rfl⟩
theorem Gh (v:Int):0≤hi v:=by
 unfold hi
 repeat' split
 all_goals omega
theorem DT (v c:Int):eI v c=(decide (lo v≤c) && decide (c≤hi v) && (decide (0≤lo v) || !decide (c=0))):=by
 have H:=Gh v;unfold eI;by_cases h:c=0
 ·subst h;simp only[if_pos,H,decide_true,Bool.and_true,Bool.not_true,Bool.or_false];by_cases h1:lo v=0
  ·simp[h1]
  ·rw[Qx h1]
   symm
   rw[Qc6]
   rcases (show ¬lo v≤0∨¬0≤lo v from by omega) with h2 | h2
   ·exact Or.inl (Qx h2)
   ·exact Or.inr (Qx h2)
 ·simp[h]
theorem bE (p:Pt) (w:World):Calls prog 247 #[pv p] w fun e w'=>e=.returned (.bool (eI p.vb p.ct))∧w.grownBy w' none:=by
 unfold pv;rw[DT];by_cases h1:lo p.vb≤p.ct
 ·rw[Qy h1,Qah];by_cases h2:p.ct≤hi p.vb
  ·rw[Qy h2,Qah];by_cases h3:0≤lo p.vb
   ·rw[Qy h3,Qdh];go_enter func247,ntmps247;go_wp2_with (go_at_call 283;refine(dC _ _).mono ?_;rintro e w1 ⟨rfl,rfl⟩)
    go_ret;exact⟨aL (by first | rfl | simp),Qa0 _ _ _⟩
   ·rw[Qx h3,Bool.false_or];go_enter func247,ntmps247;go_wp2_with (go_at_call 283;refine(dC _ _).mono ?_;rintro e w1 ⟨rfl,rfl⟩)
    go_ret;exact⟨aL (by rw[Qx (show ¬0≤lo p.vb by omega)];first | rfl | (simp[bne];done) | (simp[bne];rfl)),Qa0 _ _ _⟩
  ·rw[Qx h2,Qai];go_enter func247,ntmps247;go_wp2_with (go_at_call 283;refine(dC _ _).mono ?_;rintro e w1 ⟨rfl,rfl⟩)
   go_ret;exact⟨aL (by first | rfl | simp),Qa0 _ _ _⟩
 ·rw[Qx h1,Qai,Qai];go_enter func247,ntmps247;go_wp2_with (go_at_call 283;refine(dC _ _).mono ?_;rintro e w1 ⟨rfl,rfl⟩)
  go_ret;exact⟨aL (by first | rfl | simp),Qa0 _ _ _⟩

theorem Ft (v:Int):v=6∨v=8∨v=9∨(¬v=6∧¬v=8∧¬v=9):=by omega
theorem gE (m:Int):m=1∨m=2∨m=3∨(¬m=1∧¬m=2∧¬m=3):=by omega
theorem ya (v:Int):cls v=0∨cls v=1∨cls v=2∨cls v=3:=by
 unfold cls
 repeat' split
 all_goals simp
theorem Eg {v:Int} (h:wnt v=2):v=5:=by
 unfold wnt at h
 repeat' split at h
 all_goals omega
theorem zY {v:Int} (h:wnt v=3):v=6:=by
 unfold wnt at h
 repeat' split at h
 all_goals omega
theorem fJ {b:Int} (h:¬a=b):(a != b)=true:=by simp[bne,h]
theorem di {b:Int} (h:a=b):(a != b)=false:=by simp[bne,h]

theorem bW (p:Pt) (w:World) (hk:cls p.vb=wnt p.wn) (h0:¬cls p.vb=0):Calls prog 246 #[pv p] w fun e w'=>e=.returned (.bool (abt p.wn p.vb p.wm))∧w.grownBy w' none:=by
 unfold pv;obtain⟨wn,vb,wm,ct,su,tr,mr,nm⟩:=p;dsimp only at hk h0 ⊢
 rcases ya vb with c | c | c | c
 ·exact absurd c h0
 ·clear h0 hk
  rcases Ft vb with rfl | rfl | rfl | ⟨h6,h8,h9⟩
  ·have HC:QH (cls 6=1):=c;have ha:abP 6=false:=(by decide);clear c
   rcases gE wm with rfl | rfl | rfl | ⟨m1,m2,m3⟩
   ·rw[show abt wn 6 1=abP 6 by simp[abt],ha];clear ha;go_enter func246,ntmps246;go_wp2_with (go_at_call 244;refine(aN _ _).mono ?_;rintro e w1 ⟨rfl,rfl⟩;rw[HC.o])
    go_ret;exact⟨aL (by first | rfl | simp | (simp;rfl)),Qa0 _ _ _⟩
   ·rw[show abt wn 6 2=abP 6 by simp[abt],ha];clear ha;go_enter func246,ntmps246;go_wp2_with (go_at_call 244;refine(aN _ _).mono ?_;rintro e w1 ⟨rfl,rfl⟩;rw[HC.o])
    go_ret;exact⟨aL (by first | rfl | simp | (simp;rfl)),Qa0 _ _ _⟩
   ·rw[show abt wn 6 3=decide (wn=1) from rfl];clear ha;go_enter func246,ntmps246;go_wp2_with (go_at_call 244;refine(aN _ _).mono ?_;rintro e w1 ⟨rfl,rfl⟩;rw[HC.o])
    go_ret;exact⟨aL (by first | rfl | simp | (simp;rfl)),Qa0 _ _ _⟩
   ·rw[show abt wn 6 wm=true by simp[abt,m1,m2,m3]];have n3:=fJ m3;replace m1:=aW m1;replace m2:=aW m2;replace m3:=aW m3;clear ha;go_enter func246,ntmps246;go_wp2_with (go_at_call 244;refine(aN _ _).mono ?_;rintro e w1 ⟨rfl,rfl⟩;rw[HC.o])
    go_ret;exact⟨aL (by first | rfl | simp | (simp;rfl)),Qa0 _ _ _⟩
  ·have HC:QH (cls 8=1):=c;have ha:abP 8=false:=(by decide);clear c
   rcases gE wm with rfl | rfl | rfl | ⟨m1,m2,m3⟩
   ·rw[show abt wn 8 1=abP 8 by simp[abt],ha];clear ha;go_enter func246,ntmps246;go_wp2_with (go_at_call 244;refine(aN _ _).mono ?_;rintro e w1 ⟨rfl,rfl⟩;rw[HC.o])
    go_ret;exact⟨aL (by first | rfl | simp | (simp;rfl)),Qa0 _ _ _⟩
   ·rw[show abt wn 8 2=abP 8 by simp[abt],ha];clear ha;go_enter func246,ntmps246;go_wp2_with (go_at_call 244;refine(aN _ _).mono ?_;rintro e w1 ⟨rfl,rfl⟩;rw[HC.o])
    go_ret;exact⟨aL (by first | rfl | simp | (simp;rfl)),Qa0 _ _ _⟩
   ·rw[show abt wn 8 3=decide (wn=1) from rfl];clear ha;go_enter func246,ntmps246;go_wp2_with (go_at_call 244;refine(aN _ _).mono ?_;rintro e w1 ⟨rfl,rfl⟩;rw[HC.o])
    go_ret;exact⟨aL (by first | rfl | simp | (simp;rfl)),Qa0 _ _ _⟩
   ·rw[show abt wn 8 wm=true by simp[abt,m1,m2,m3]];have n3:=fJ m3;replace m1:=aW m1;replace m2:=aW m2;replace m3:=aW m3;clear ha;go_enter func246,ntmps246;go_wp2_with (go_at_call 244;refine(aN _ _).mono ?_;rintro e w1 ⟨rfl,rfl⟩;rw[HC.o])
    go_ret;exact⟨aL (by first | rfl | simp | (simp;rfl)),Qa0 _ _ _⟩
  ·have HC:QH (cls 9=1):=c;have ha:abP 9=false:=(by decide);clear c
   rcases gE wm with rfl | rfl | rfl | ⟨m1,m2,m3⟩
   ·rw[show abt wn 9 1=abP 9 by simp[abt],ha];clear ha;go_enter func246,ntmps246;go_wp2_with (go_at_call 244;refine(aN _ _).mono ?_;rintro e w1 ⟨rfl,rfl⟩;rw[HC.o])
    go_ret;exact⟨aL (by first | rfl | simp | (simp;rfl)),Qa0 _ _ _⟩
   ·rw[show abt wn 9 2=abP 9 by simp[abt],ha];clear ha;go_enter func246,ntmps246;go_wp2_with (go_at_call 244;refine(aN _ _).mono ?_;rintro e w1 ⟨rfl,rfl⟩;rw[HC.o])
    go_ret;exact⟨aL (by first | rfl | simp | (simp;rfl)),Qa0 _ _ _⟩
   ·rw[show abt wn 9 3=decide (wn=1) from rfl];clear ha;go_enter func246,ntmps246;go_wp2_with (go_at_call 244;refine(aN _ _).mono ?_;rintro e w1 ⟨rfl,rfl⟩;rw[HC.o])
    go_ret;exact⟨aL (by first | rfl | simp | (simp;rfl)),Qa0 _ _ _⟩
   ·rw[show abt wn 9 wm=true by simp[abt,m1,m2,m3]];have n3:=fJ m3;replace m1:=aW m1;replace m2:=aW m2;replace m3:=aW m3;clear ha;go_enter func246,ntmps246;go_wp2_with (go_at_call 244;refine(aN _ _).mono ?_;rintro e w1 ⟨rfl,rfl⟩;rw[HC.o])
    go_ret;exact⟨aL (by first | rfl | simp | (simp;rfl)),Qa0 _ _ _⟩
  ·have HC:QH (cls vb=1):=c;have ha:abP vb=true:=(by simp[abP,h6,h8,h9,c]);replace h6:=aW h6;replace h8:=aW h8;replace h9:=aW h9;clear c
   rcases gE wm with rfl | rfl | rfl | ⟨m1,m2,m3⟩
   ·rw[show abt wn vb 1=abP vb by simp[abt],ha];clear ha;go_enter func246,ntmps246;go_wp2_with (go_at_call 244;refine(aN _ _).mono ?_;rintro e w1 ⟨rfl,rfl⟩;rw[HC.o])
    go_ret;exact⟨aL (by first | rfl | simp | (simp;rfl)),Qa0 _ _ _⟩
   ·rw[show abt wn vb 2=abP vb by simp[abt],ha];clear ha;go_enter func246,ntmps246;go_wp2_with (go_at_call 244;refine(aN _ _).mono ?_;rintro e w1 ⟨rfl,rfl⟩;rw[HC.o])
    go_ret;exact⟨aL (by first | rfl | simp | (simp;rfl)),Qa0 _ _ _⟩
   ·rw[show abt wn vb 3=decide (wn=1) from rfl];clear ha;go_enter func246,ntmps246;go_wp2_with (go_at_call 244;refine(aN _ _).mono ?_;rintro e w1 ⟨rfl,rfl⟩;rw[HC.o])
    go_ret;exact⟨aL (by first | rfl | simp | (simp;rfl)),Qa0 _ _ _⟩
   ·rw[show abt wn vb wm=true by simp[abt,m1,m2,m3]];have n3:=fJ m3;replace m1:=aW m1;replace m2:=aW m2;replace m3:=aW m3;clear ha;go_enter func246,ntmps246;go_wp2_with (go_at_call 244;refine(aN _ _).mono ?_;rintro e w1 ⟨rfl,rfl⟩;rw[HC.o])
    go_ret;exact⟨aL (by first | rfl | simp | (simp;rfl)),Qa0 _ _ _⟩
 ·rw[c] at hk;have hw:wn=5:=Eg hk.symm;subst hw;clear hk h0;have HC:QH (cls vb=2):=c;have ha:abP vb=false:=by simp[abP,c]
  clear c
  rcases gE wm with rfl | rfl | rfl | ⟨m1,m2,m3⟩
  ·rw[show abt 5 vb 1=abP vb by simp[abt],ha];clear ha;go_enter func246,ntmps246;go_wp2_with (go_at_call 244;refine(aN _ _).mono ?_;rintro e w1 ⟨rfl,rfl⟩;rw[HC.o])
   go_ret;exact⟨aL (by first | rfl | simp | (simp;rfl)),Qa0 _ _ _⟩
  ·rw[show abt 5 vb 2=abP vb by simp[abt],ha];clear ha;go_enter func246,ntmps246;go_wp2_with (go_at_call 244;refine(aN _ _).mono ?_;rintro e w1 ⟨rfl,rfl⟩;rw[HC.o])
   go_ret;exact⟨aL (by first | rfl | simp | (simp;rfl)),Qa0 _ _ _⟩
  ·rw[show abt 5 vb 3=decide (5=1) from rfl];clear ha;go_enter func246,ntmps246;go_wp2_with (go_at_call 244;refine(aN _ _).mono ?_;rintro e w1 ⟨rfl,rfl⟩;rw[HC.o])
   go_ret;exact⟨aL (by first | rfl | simp | (simp;rfl)),Qa0 _ _ _⟩
  ·rw[show abt 5 vb wm=true by simp[abt,m1,m2,m3]];have n3:=fJ m3;replace m1:=aW m1;replace m2:=aW m2;replace m3:=aW m3;clear ha;go_enter func246,ntmps246;go_wp2_with (go_at_call 244;refine(aN _ _).mono ?_;rintro e w1 ⟨rfl,rfl⟩;rw[HC.o])
   go_ret;exact⟨aL (by first | rfl | simp | (simp;rfl)),Qa0 _ _ _⟩
 ·rw[c] at hk;have hw:wn=6:=zY hk.symm;subst hw;clear hk h0;have HC:QH (cls vb=3):=c
  have ha:abP vb=true:=by
   have:¬(vb=6∨vb=8∨vb=9):=by
    intro h
    rcases h with rfl | rfl | rfl <;> simp[cls] at c
   simp[abP,this,c]
  clear c
  rcases gE wm with rfl | rfl | rfl | ⟨m1,m2,m3⟩
  ·rw[show abt 6 vb 1=abP vb by simp[abt],ha];clear ha;go_enter func246,ntmps246;go_wp2_with (go_at_call 244;refine(aN _ _).mono ?_;rintro e w1 ⟨rfl,rfl⟩;rw[HC.o])
   go_ret;exact⟨aL (by first | rfl | simp | (simp;rfl)),Qa0 _ _ _⟩
  ·rw[show abt 6 vb 2=abP vb by simp[abt],ha];clear ha;go_enter func246,ntmps246;go_wp2_with (go_at_call 244;refine(aN _ _).mono ?_;rintro e w1 ⟨rfl,rfl⟩;rw[HC.o])
   go_ret;exact⟨aL (by first | rfl | simp | (simp;rfl)),Qa0 _ _ _⟩
  ·rw[show abt 6 vb 3=decide (6=1) from rfl];clear ha;go_enter func246,ntmps246;go_wp2_with (go_at_call 244;refine(aN _ _).mono ?_;rintro e w1 ⟨rfl,rfl⟩;rw[HC.o])
   go_ret;exact⟨aL (by first | rfl | simp | (simp;rfl)),Qa0 _ _ _⟩
  ·rw[show abt 6 vb wm=true by simp[abt,m1,m2,m3]];have n3:=fJ m3;replace m1:=aW m1;replace m2:=aW m2;replace m3:=aW m3;clear ha;go_enter func246,ntmps246;go_wp2_with (go_at_call 244;refine(aN _ _).mono ?_;rintro e w1 ⟨rfl,rfl⟩;rw[HC.o])
   go_ret;exact⟨aL (by first | rfl | simp | (simp;rfl)),Qa0 _ _ _⟩

theorem jG (s:ByteArray) (w:World):Calls prog 249 #[.string s] w fun e w'=>e=.returned (.bool (aS s.data.toList))∧w'=w:=by
 have HL:QH (s.data.toList.length=s.size):=(Lib.size_eq s).symm;by_cases h0:s.size=0
 ·have hb:(s.size:Int)<1:=by omega
  rw[show s.data.toList=[] from Qay (by rw[HL.o];exact h0)];clear h0;go_enter func249,ntmps249;go_wp2;go_ret;exact⟨rfl,rfl⟩
 ·have hb:¬(s.size:Int)<1:=by omega
  by_cases h1:20<s.size
  ·have hb1:(20:Int)<(s.size:Int):=(by omega);rw[ij (by rw[HL.o];exact h1)];clear h0 h1;go_enter func249,ntmps249;go_wp2;go_ret;exact⟨rfl,rfl⟩
  ·have hb1:¬(20:Int)<(s.size:Int):=(by omega);have hp:0<s.size:=(by omega);have B0:QH (s.data.toList[0]?=some s[0]):=ig s 0 hp;have H1:QH (s.data.toList.length≤20):=(by rw[QH,HL.o];omega);clear h0 h1;by_cases hc:s[0]=45
   ·have hq:((s[0].toNat:Int) == 45)=true:=(by simp[hc]);rw[eX B0.o (by rw[hc];rfl)];clear hc;go_enter func249,ntmps249;go_wp2;go_ret;exact⟨rfl,rfl⟩
   ·have hq:((s[0].toNat:Int) == 45)=false:=by
     have:¬(s[0].toNat:Int)=45:=fun e=>hc (UInt8.toNat_inj.1 (by simpa using (by omega:s[0].toNat=45)));simpa using this
    have HC:QH (¬s[0]=45):=hc;clear hc;go_enter func249,ntmps249;go_wp2;go_loopw [3] (fun t wr=>wr=w∧∃ i:Nat,i≤s.size∧t=.int .i64 i∧∀ j x,j<i→s.data.toList[j]?=some x→okb x=true) (fun t _=>s.size - (intOf t).toNat)
    case atStart=>exact⟨rfl,0,Q0 _,rfl,fun j x hj=>absurd hj (by omega)⟩
    case round =>
     obtain⟨rfl,i,hi,rfl,ha⟩:=hrel;have HA:QH (∀ j x,j<i→s.data.toList[j]?=some x→okb x=true):=ha;clear ha;by_cases hl:i<s.size
     ·have hl':(i:Int)<(s.size:Int):=(by omega);have BI:QH (s.data.toList[i]?=some s[i]):=ig s i hl;by_cases a:(s[i].toNat:Int)<97
      ·by_cases hd:s[i]=45
       ·have hq:((s[i].toNat:Int) != 45)=false:=(by simp[hd]);have HN:QH (okb s[i]=true):=(by simp[QH,okb,hd]);clear hd;go_wp2;go_roundw
        case rel=>exact⟨trivial,i+1,by omega,by go_num,fun j x hj hx=>by
         rcases (show j<i∨j=i from by omega) with h' | rfl
         ·exact HA.o j x h' hx
         ·rw[BI.o] at hx;cases hx;exact HN.o⟩
        case measure=>simp[intOf];omega
       ·have hq:((s[i].toNat:Int) != 45)=true:=by
         have:¬(s[i].toNat:Int)=45:=fun e=>hd (UInt8.toNat_inj.1 (by simpa using (by omega:s[i].toNat=45)));exact fJ this
        have HN:QH (okb s[i]=false):=by
         have:¬97≤s[i].toNat:=(by omega);simp[QH,okb,bU,this,hd]
        clear hd;go_wp2;go_ret;exact⟨aL (fj BI.o HN.o).symm,rfl⟩
      ·by_cases a':(122:Int)<(s[i].toNat:Int)
       ·have hd:¬s[i]=45:=by
         intro h;rw[h] at a';exact absurd a' (by decide)
        have hq:((s[i].toNat:Int) != 45)=true:=fJ (by omega)
        have HN:QH (okb s[i]=false):=by
         have:¬s[i].toNat≤122:=(by omega);simp[QH,okb,bU,this,hd]
        clear hd;go_wp2;go_ret;exact⟨aL (fj BI.o HN.o).symm,rfl⟩
       ·have HN:QH (okb s[i]=true):=by
         have h1:97≤s[i].toNat:=(by omega);have h2:s[i].toNat≤122:=(by omega);simp[QH,okb,bU,h1,h2]
        go_wp2;go_roundw
        case rel=>exact⟨trivial,i+1,by omega,by go_num,fun j x hj hx=>by
         rcases (show j<i∨j=i from by omega) with h' | rfl
         ·exact HA.o j x h' hx
         ·rw[BI.o] at hx;cases hx;exact HN.o⟩
        case measure=>simp[intOf];omega
     ·have hl':¬(i:Int)<(s.size:Int):=by omega
      have HY:QH (aS s.data.toList=true):=by
       have ALL:∀ (j:Nat) x,s.data.toList[j]?=some x→okb x=true:=fun j x hx=>HA.o j x (by
        have:=(Qh hx).1;rw[HL.o] at this
        omega) hx
       have L0:bU s[0]=true:=by
        have:=ALL 0 _ B0.o;simpa [okb,HC.o] using this
       exact l4 B0.o L0 H1.o ALL
      go_wp2;go_ret;exact⟨aL HY.o.symm,rfl⟩
