import Derived.Test.YtjmepebbcnhalaaGreatZ12
namespace Go.Proofs.YtjmepebbcnhalaaGreat
open Tryz
set_option maxRecDepth 100000
set_option maxHeartbeats 8000000
open Go.RowKit
variable {w wr:World} {b g o base m i:Nat} {v u:Value} {p:Pl} {ps:List Pt} {gs:List Ent}
theorem RJ.shutIt (h:RJ w b v p):RJ (w.setCell ⟨b,1,none⟩ (.bool true)) b v { p with shut:=true }:=by
 refine⟨?_,h.nine,h.five⟩;rw[au h.lies,Qa6];rfl
def ptA (x:Pt):Array Value:=#[.int .u8 x.wn,.int .u8 x.vb,.int .u8 x.wm,.int .i64 x.ct,.int .u8 x.su,.int .u8 x.tr,.int .u8 x.mr,.string x.nm]
def zO (w:World) (x:Pt):World:=w.alloc (.cells (ptA x) 62)
theorem wQ (w:World) (x:Pt):w.grownBy (zO w x) none:=QG
theorem Em (w:World) (x:Pt):(zO w x).heap[w.heap.size]?=some (.cells (ptA x) 62 (0,0)):=aj w _ _
theorem AD (ok:Nat→Prop) (b:Nat) (v:Value) (p:Pl) (fs:List Ent) (w:World) (R:RJ w b v p) (L:RL w v fs) (hl:fs.length≤64) (hG:dA ok w fs) (hL:∀ e∈fs,e.ps.length≤4):Calls prog 56 #[.pointer (some ⟨b,0,none⟩)] w fun e w'=>e=.returned (.int .i64 (ie p fs))∧RJ w' b v (dX p fs)∧w.grownBy w' (some b):=by
 have HR:QH (RJ w b v p):=R;have HL:QH (RL w v fs):=L;have HGd:QH (dA ok w fs):=hG;have HLl:QH (∀ e∈fs,e.ps.length≤4):=hL;have H64:QH (fs.length≤64):=hl;have c1:=R.shut;obtain⟨a,k,rfl⟩:=L.form;have hsm:bl fs.length:=by unfold bl;omega
 clear R L hG hL hl;cases hs:p.shut with
 | true =>
  rw[hs] at c1;have e1:ie p fs=7:=if_pos hs;have e2:dX p fs=p:=if_neg (by rw[e1];decide);rw[e1,e2];clear e1 e2 hs;go_enter func56,ntmps56;go_wp2_with fail;refine(bA b _ p w HR.o).mono ?_;rintro e w1 ⟨rfl,h1⟩;obtain rfl:w=w1:=h1.symm;go_wp2;go_ret;exact⟨rfl,HR.o,aw _ _⟩
 | false =>
  rw[hs] at c1;have e1:ie p fs=iH fs fs:=if_neg (by simp[hs]);obtain⟨r,hr⟩:∃ r,iH fs fs=r:=⟨_,rfl⟩
  have HE:QH (dX p fs=if r=0 then { p with shut:=true } else p):=by unfold QH dX;rw[e1,hr]
  have H0:QH (mJ fs 0 r):=hr;rw[e1,hr];clear e1 hr hs;go_enter func56,ntmps56;go_wp2_with fail;refine(bA b _ p w HR.o).mono ?_;rintro e w1 ⟨rfl,h1⟩;obtain rfl:w=w1:=h1.symm;go_wp2_with fail;go_loopw [3] (fun x3 wr=>∃ k:Nat,k≤fs.length∧x3=.int .i64 k∧mJ fs k r∧w.grownBy wr none) (fun x3 _=>fs.length - (intOf x3).toNat)
  case atStart=>exact⟨0,Q0 _,rfl,H0.o,aw _ _⟩
  case round =>
   obtain⟨i,hi,rfl,hq,G⟩:=hrel;have HG:QH (w.grownBy wr none):=G;have HQ:QH (mJ fs i r):=hq;have HRr:QH (RJ wr b (.slice a fs.length k) p):=HR.o.keep G;have cl:=HRr.o.list;clear G hq H0 c1
   rcases (show i=fs.length∨i<fs.length from by omega) with hie | hlt
   ·have e:r=0:=(by have:=HQ.o;unfold mJ at this;rw[hie,Qbf] at this;exact this.symm);subst e;have i1:¬(i:Int)<(fs.length:Int):=(by omega);have s1:=HRr.o.shut;have sf:=HRr.o.free 1;clear hi hie HQ;go_wp2;go_ret;refine⟨rfl,?_,bi HG.o (al _ _ _ _)⟩;rw[HE.o];simp only[if_true];exact HRr.o.shutIt
   ·have i1:(i:Int)<(fs.length:Int):=(by omega);have i0:(0:Int)≤(i:Int):=(by omega);obtain⟨g,cap,ev,hrow⟩:=(HL.o.keep HG.o).row (by omega);injection ev with e1 _ e3;subst e1;subst e3;obtain⟨e,he⟩:∃ e,fs[i]?=some e:=⟨_,Qg hlt⟩
    have HST:QH ((if ¬dV fs e.ps=0 then dV fs e.ps else iH fs (fs.drop (i+1)))=r):=qA HQ.o he;have PS:=(HGd.o e (Qm he)).1.keep HG.o;have hp4:=HLl.o e (Qm he);have C8:=(hrow i e he).c8;obtain⟨hd,u,ps⟩:=e;simp only at HST PS hp4 C8;obtain⟨pa,pc,rfl⟩:=PS.form;have HPS:QH (da wr (.slice pa ps.length pc) ps):=PS;have HC8:QH (wr.cell? ⟨g,i*9+8,none⟩=some (.slice pa ps.length pc)):=C8;have hmp:bl ps.length:=(by unfold bl;omega);obtain⟨q,hq⟩:∃ q,dV fs ps=q:=⟨_,rfl⟩
    rw[hq] at HST;have HQ0:QH (iz fs ps 0 q):=hq;clear he PS HQ hq hrow hi C8;obtain⟨wo,ho⟩:=Qe (wr);subst ho;go_wp2_with fail;go_loopw [4] (fun x4 wr2=>∃ j:Nat,j≤ps.length∧x4=.int .i64 j∧iz fs ps j q∧wo.grownBy wr2 none) (fun x4 _=>ps.length - (intOf x4).toNat)
    case atStart=>exact⟨0,Q0 _,rfl,HQ0.o,aw _ _⟩
    case round =>
     obtain⟨j,hj,rfl,R2,G2⟩:=hrel;have HG2:QH (wo.grownBy wr none):=G2;have HQ2:QH (iz fs ps j q):=R2;have HRj:QH (RJ wr b (.slice (some ⟨g,0,none⟩) fs.length k) p):=HRr.o.keep G2;clear R2 G2 HQ0 cl;have cl:=HRj.o.list;have c8:=HG2.o.cell HC8.o (by simp);have HGw:QH (w.grownBy wr none):=aa HG.o HG2.o
     rcases (show j=ps.length∨j<ps.length from by omega) with hje | hjt
     ·have e:q=0:=(by have:=HQ2.o;unfold iz at this;rw[hje,Qbf] at this;exact this.symm);have HN:QH (mJ fs (i+1) r):=(by have:=HST.o;rw[e] at this;exact this);have j1:¬(j:Int)<(ps.length:Int):=(by omega);clear HST HQ2 hj e hp4 hje;go_wp2_with fail;go_roundw
      case rel=>exact⟨i+1,hlt,by first | rfl | (rw[hsm.wrap hlt];rfl),HN.o,HGw.o⟩
      case measure=>first | exact aD hlt | (rw[hsm.wrap hlt];exact aD hlt)
     ·have j1:(j:Int)<(ps.length:Int):=(by omega);have j0:(0:Int)≤(j:Int):=(by omega);obtain⟨pg,po,cap2,ev,PA⟩:=HPS.o.part (by omega);injection ev with e1 _ e3;subst e1;subst e3;obtain⟨x,hx⟩:∃ x,ps[j]?=some x:=⟨_,Qg hjt⟩
      have HSTP:QH ((if ¬ge fs x=0 then ge fs x else dV fs (ps.drop (j+1)))=q):=ny HQ2.o hx;obtain⟨p0,p1,p2,p3,p4,p5,p6,p7⟩:=(PA j x hx).keep HG2.o;clear PA hx HQ2 hj;have HW3:QH (wr.grownBy (zO wr x) none):=wQ wr x;have HA3:QH ((zO wr x).heap[wr.heap.size]?=some (.cells (ptA x) 62 (0,0))):=Em wr x;obtain⟨W3,hW3⟩:=Qe (zO wr x);rw[←hW3] at HW3 HA3;unfold zO ptA at hW3;go_upto_region 12 with fail;rw[←hW3];clear hW3 p0 p1 p2 p3 p4 p5 p6 p7;have HR3:QH (RJ W3 b (.slice (some ⟨g,0,none⟩) fs.length k) p):=HRj.o.keep HW3.o;have HL3:QH (RL W3 (.slice (some ⟨g,0,none⟩) fs.length k) fs):=HL.o.keep (aa HGw.o HW3.o);have HG3:QH (wo.grownBy W3 none):=aa HG2.o HW3.o;have y1:=ae HA3.o 1;have y7:=ae HA3.o 7;unfold ptA at y1 y7;by_cases h7:x.vb=7
      case neg =>
       have e0:ge fs x=0:=if_pos h7;have HN:QH (iz fs ps (j+1) q):=(by have:=HSTP.o;rw[if_neg (by simp[e0])] at this;exact this);have h7':(x.vb != 7)=true:=(by simpa using h7);clear e0 h7 HSTP;go_wp2_with fail;go_roundw
       case rel=>exact⟨j+1,hjt,by first | rfl | (rw[hmp.wrap hjt];rfl),HN.o,HG3.o⟩
       case measure=>first | exact aD hjt | (rw[hmp.wrap hjt];exact aD hjt)
      case pos =>
       have e0:ge fs x=if pos (bL fs) x.nm<0 then 6 else if mF fs (pos (bL fs) x.nm).toNat=2 then 8 else 0:=if_neg (by simp[h7]);have h7':(x.vb != 7)=false:=(by simp[h7]);have HP:=oo b _ p fs x.nm W3 HR3.o HL3.o H64.o;obtain⟨z,hz⟩:=Qe (pos (bL fs) x.nm);have hz1:=mT (bL fs) x.nm;rw[rm] at hz1;rw[←hz] at HP e0 hz1;clear hz h7;by_cases h0:z<0
       ·rw[if_pos h0] at e0;have e1:(6:Int)=q:=(by have:=HSTP.o;rw[if_pos (by rw[e0];decide),e0] at this;exact this);have e2:q=r:=(by have:=HST.o;rw[if_pos (by rw[←e1];decide)] at this;exact this);have HE':QH (dX p fs=p):=(by have:=HE.o;rw[if_neg (by rw[←e2,←e1];decide)] at this;exact this);have HT:QH ((6:Int)=r):=e1.trans e2;clear HSTP HST HE e1 e2 e0 hz1;go_wp2_with fail;refine HP.mono ?_;rintro e w4 ⟨rfl,h1⟩;obtain rfl:W3=w4:=h1.symm;go_wp2;go_ret;refine⟨aO HT.o,?_,bi (aa HGw.o HW3.o) (aw _ _)⟩;rw[HE'.o];exact HR3.o
       ·rw[if_neg h0] at e0;obtain⟨n,rfl⟩:=Qbr (show 0≤z by omega);have hn:n<fs.length:=(by omega);obtain⟨e,he⟩:∃ e,fs[n]?=some e:=⟨_,Qg hn⟩
        have ek:mF fs ((n:Int).toNat)=e.h.kd:=(by show mF fs n=_;unfold mF;rw[he]);rw[ek] at e0;have n0:(0:Int)≤(n:Int):=(by omega);have n1:(n:Int)<(fs.length:Int):=(by omega);obtain⟨g',cap',ev',hrow'⟩:=HL3.o.row (by omega);injection ev' with e1' _ e3';injection e1' with e1';injection e1' with e1';subst e1';have kk:=(hrow' n e he).c2;have cl3:=HR3.o.list;clear ek he hn hz1 hrow' e3' cl c8;by_cases h2:e.h.kd=2
        ·rw[if_pos h2] at e0;have h2':(e.h.kd == 2)=true:=(by simpa using h2);have e1:(8:Int)=q:=(by have:=HSTP.o;rw[if_pos (by rw[e0];decide),e0] at this;exact this);have e2:q=r:=(by have:=HST.o;rw[if_pos (by rw[←e1];decide)] at this;exact this);have HE':QH (dX p fs=p):=(by have:=HE.o;rw[if_neg (by rw[←e2,←e1];decide)] at this;exact this);have HT:QH ((8:Int)=r):=e1.trans e2;clear HSTP HST HE e1 e2 e0 h2;go_wp2_with fail;refine HP.mono ?_;rintro e w4 ⟨rfl,h1⟩;obtain rfl:W3=w4:=h1.symm;go_wp2;go_ret;refine⟨aO HT.o,?_,bi (aa HGw.o HW3.o) (aw _ _)⟩;rw[HE'.o];exact HR3.o
        ·rw[if_neg h2] at e0;have h2':(e.h.kd == 2)=false:=(by simpa using h2);have HN:QH (iz fs ps (j+1) q):=(by have:=HSTP.o;rw[if_neg (by simp[e0])] at this;exact this);clear HSTP e0 h2;go_wp2_with fail;refine HP.mono ?_;rintro e w4 ⟨rfl,h1⟩;obtain rfl:W3=w4:=h1.symm;go_wp2_with fail;go_roundw
         case rel=>exact⟨j+1,hjt,by first | rfl | (rw[hmp.wrap hjt];rfl),HN.o,HG3.o⟩
         case measure=>first | exact aD hjt | (rw[hmp.wrap hjt];exact aD hjt)
set_option maxHeartbeats 1000000
theorem lh (h:Hd) (v:Value) (ps:List Pt) (w:World) (hp:da w v ps) (hb:ps.length*40≤140737488355328):Calls prog 120 #[cv h v] w fun e w'=>∃ u,e=.returned (cv h u)∧bJ w' w.heap.size u ps∧w.grownBy w' none:=by
 obtain⟨i0,hi,hz0,hz1,hz2⟩:=mP info62;obtain⟨W2,hW2⟩:=Qe ((w.alloc (.cells (ccs h v) 111)).alloc (.cells (ccs Hd.none (.slice none 0 0)) 111));have G2:w.grownBy W2 none:=by rw[hW2];exact am QG _
 have A2:CAt W2 w.heap.size h v:=by rw[hW2];exact CAt.keep (aj w _ _) QG
 have Z2:CAt W2 (w.heap.size+1) Hd.none (.slice none 0 0):=by
  have:=aj (w.alloc (.cells (ccs h v) 111)) (ccs Hd.none (.slice none 0 0)) 111;rw[Qa3] at this;rw[hW2];exact this
 have HA2:QH (CAt W2 w.heap.size h v):=A2;have HZ2:QH (CAt W2 (w.heap.size+1) Hd.none (.slice none 0 0)):=Z2;have HG2:QH (w.grownBy W2 none):=G2;have hs2:w.heap.size+2≤W2.heap.size:=by have:=aY Z2;omega
 have HB:QH (ps.length*40≤140737488355328):=hb;unfold ccs Hd.none at hW2;clear G2 A2 Z2 hb
 rcases hp with ⟨rfl,rfl⟩ | ⟨ad,cap,rfl,hc,hcell⟩
 ·unfold cv;go_enter func120,ntmps120;go_upto_region 1 with fail;rw[←hW2];clear hW2;obtain⟨c0,c1,c2,c3,c4,c5,c6,c7,c8⟩:=HA2.o.cells;have cf:=fun i=>HA2.o.free i;obtain⟨z0,z1,z2,z3,z4,z5,z6,z7,z8⟩:=HZ2.o.cells;have zf:=fun i=>HZ2.o.free i;simp only[Hd.none] at z0 z1 z2 z3 z4 z5 z6 z7 z8;go_wp2_with fail;refine bodyPost_ret (v:=cv h (.slice none 0 0)) (by simp[results,results120,go_sem,z0,z1,z2,z3,z4,z5,z6,z7,z8,cv]) rfl ⟨.slice none 0 0,rfl,bJ.nil _ _,?_⟩;exact ak (ak HG2.o (al _ _ 8 _) (fun x e=>by cases e;exact Qj _)) (ii _ (w.heap.size+1) _ _ _ _ _ _ _ _ _) (fun x e=>by cases e;omega)
 ·have HS:QH (∀ j u,(et ps)[j]?=some u→W2.cell? (ad.add j)=some u):=fun j u hu=>HG2.o.cell (hcell j u hu) (by simp);clear hcell hc;unfold cv;go_enter func120,ntmps120;go_upto_region 1 with fail;rw[←hW2];clear hW2;obtain⟨c0,c1,c2,c3,c4,c5,c6,c7,c8⟩:=HA2.o.cells;go_upto_region 3 with (at_builtin;refine wpList_append_own_at _ rfl (.tmp 4) (.tmp 6) 109 rfl W2.heap.size 62 i0 _ 8 40 underlying109 hi hz0 hz1 hz2 rfl (by decide) _ 0 [] rfl (bJ.nil W2 _) ad ps.length cap (et ps) rfl (fK ps) HS.o (iR ps) (by have:=HB.o;unfold maxLen;omega) (by rw[Qa8];exact HB.o) (Qj _) ?_;intro v5 w5 o5 g5 _ _;rw[Qa8,Qaz] at o5;have O5:bJ w5 W2.heap.size v5 ps:=o5;obtain⟨a5,k5,rfl⟩:=O5.at.form;have HO5:QH (bJ w5 W2.heap.size (.slice a5 ps.length k5) ps):=O5;have A5:=HA2.o.keep g5;have Z5:=HZ2.o.keep g5;have af:=fun i=>A5.free i;have a8:=A5.cells.2.2.2.2.2.2.2.2;have HA5:QH (CAt w5 w.heap.size h (.slice (some ad) ps.length cap)):=A5;have HZ5:QH (CAt w5 (w.heap.size+1) Hd.none (.slice none 0 0)):=Z5;have HG5:QH (w.grownBy w5 none):=aa HG2.o g5;clear O5 A5 Z5 o5 c0 c1 c2 c3 c4 c5 c6 c7 c8)
  have A6:CAt (w5.setCell ⟨w.heap.size,8,none⟩ (.slice a5 ps.length k5)) w.heap.size h (.slice a5 ps.length k5):=au HA5.o 8 _;have Z6:CAt (w5.setCell ⟨w.heap.size,8,none⟩ (.slice a5 ps.length k5)) (w.heap.size+1) Hd.none (.slice none 0 0):=HZ5.o.keepR (al _ _ _ _) (by simp);have HO6:QH (bJ (w5.setCell ⟨w.heap.size,8,none⟩ (.slice a5 ps.length k5)) W2.heap.size (.slice a5 ps.length k5) ps):=HO5.o.keep (al _ _ _ _) (fun x e=>by cases e;omega);have HG6:QH (w.grownBy (w5.setCell ⟨w.heap.size,8,none⟩ (.slice a5 ps.length k5)) none):=ak HG5.o (al _ _ _ _) (fun x e=>by cases e;exact Qj _);clear HA5 HZ5 HO5 HG5 af a8;obtain⟨W6,hW6⟩:=Qe (w5.setCell ⟨w.heap.size,8,none⟩ (.slice a5 ps.length k5));rw[←hW6] at A6 Z6 HO6 HG6 ⊢;clear hW6;obtain⟨c0,c1,c2,c3,c4,c5,c6,c7,c8⟩:=A6.cells;obtain⟨z0,z1,z2,z3,z4,z5,z6,z7,z8⟩:=Z6.cells;have zf:=fun i=>Z6.free i;simp only[Hd.none] at z0 z1 z2 z3 z4 z5 z6 z7 z8;have HF:QH (bJ (((((((((W6.setCell ⟨w.heap.size+1,0,none⟩ (.string h.nm)).setCell ⟨w.heap.size+1,1,none⟩ (.int .u8 h.su)).setCell ⟨w.heap.size+1,2,none⟩ (.int .u8 h.kd)).setCell ⟨w.heap.size+1,3,none⟩ (.int .i64 h.co)).setCell ⟨w.heap.size+1,4,none⟩ (.int .i64 h.po)).setCell ⟨w.heap.size+1,5,none⟩ (.int .i64 h.he)).setCell ⟨w.heap.size+1,6,none⟩ (.int .u16 h.tr)).setCell ⟨w.heap.size+1,7,none⟩ (.bool h.tk)).setCell ⟨w.heap.size+1,8,none⟩ (.slice a5 ps.length k5)) w.heap.size (.slice a5 ps.length k5) ps):=(HO6.o.keep (ii _ (w.heap.size+1) _ _ _ _ _ _ _ _ _) (fun x e=>by cases e;omega)).big (by omega);clear A6 Z6 HO6;go_wp2;refine bodyPost_ret (v:=cv h (.slice a5 ps.length k5)) (by simp[results,results120,go_sem,z0,z1,z2,z3,z4,z5,z6,z7,z8,cv]) rfl ⟨.slice a5 ps.length k5,rfl,HF.o,?_⟩;exact ak HG6.o (ii _ (w.heap.size+1) _ _ _ _ _ _ _ _ _) (fun x e=>by cases e;omega)

theorem yW {c d:Hd} (h:Ahd c d):decide (ord c d<0)=true:=Qy ((j6 c d).2 h)
theorem yt {c d:Hd} (h:¬Ahd c d):decide (ord c d<0)=false:=Qx (fun k=>h ((j6 c d).1 k))
theorem pI (c d:Hd) (u v:Value) (w:World):Calls prog 119 #[cv c u,cv d v] w fun e w'=>e=.returned (.bool (decide (ord c d<0)))∧w.grownBy w' none:=by
 obtain⟨W2,hW2⟩:=Qe ((w.alloc (.cells (ccs c u) 111)).alloc (.cells (ccs d v) 111));have HG2:QH (w.grownBy W2 none):=by rw[hW2];exact am QG _
 have A2:CAt W2 w.heap.size c u:=by rw[hW2];exact CAt.keep (aj w _ _) QG
 have Z2:CAt W2 (w.heap.size+1) d v:=by
  have:=aj (w.alloc (.cells (ccs c u) 111)) (ccs d v) 111;rw[Qa3] at this;rw[hW2];exact this
 obtain⟨c0,c1,_⟩:=A2.cells;obtain⟨d0,d1,_⟩:=Z2.cells;clear A2 Z2;unfold ccs at hW2;unfold cv;by_cases h1:c.su<d.su
 ·rw[yW (Or.inl h1)];go_enter func119,ntmps119;go_upto_region 1 with fail;rw[←hW2];clear hW2;go_wp2;go_ret;exact⟨rfl,HG2.o⟩
 ·by_cases h2:c.su=d.su
  ·have q2:(c.su == d.su)=true:=(by simp[h2]);have h9:=Bt c.nm d.nm;unfold bLt at h9;by_cases h3:c.nm.data.toList<d.nm.data.toList
   ·rw[yW (Or.inr ⟨h2,h3⟩)];have q3:Op.bytesLess c.nm.toList d.nm.toList=true:=(by rw[h9];exact Qy h3);clear h9 h3 h2;go_enter func119,ntmps119;go_upto_region 1 with fail;rw[←hW2];clear hW2;go_wp2;go_ret;exact⟨rfl,HG2.o⟩
   ·rw[yt (by rintro (h | h);exact h1 h;exact h3 h.2)];have q3:Op.bytesLess c.nm.toList d.nm.toList=false:=(by rw[h9];exact Qx h3);clear h9 h3 h2;go_enter func119,ntmps119;go_upto_region 1 with fail;rw[←hW2];clear hW2;go_wp2;go_ret;exact⟨rfl,HG2.o⟩
  ·rw[yt (by rintro (h | h);exact h1 h;exact h2 h.1)];have q2:(c.su == d.su)=false:=(by simpa using h2);clear h2;go_enter func119,ntmps119;go_upto_region 1 with fail;rw[←hW2];clear hW2;go_wp2;go_ret;exact⟨rfl,HG2.o⟩
set_option maxHeartbeats 2000000
theorem Fm (b:Nat) (v:Value) (p:Pl) (es:List Ent) (n:Int) (w:World) (R:RJ w b v p) (L:RL w v es) (hn:¬nw p es n):Calls prog 144 #[.pointer (some ⟨b,0,none⟩),.int .i64 n] w fun e w'=>e=.returned (.tuple #[cv Hd.none (.slice none 0 0),.int .i64 6])∧w.grownBy w' none:=by
 obtain⟨W1,hW1⟩:=Qe (w.alloc (.cells (ccs Hd.none (.slice none 0 0)) 111));have HG1:QH (w.grownBy W1 none):=by rw[hW1];exact QG
 have HC1:QH (CAt W1 w.heap.size Hd.none (.slice none 0 0)):=by rw[hW1];exact aj w _ _
 obtain⟨av,kv,rfl⟩:=L.form;have HR1:QH (RJ W1 b (.slice av es.length kv) p):=R.keep HG1.o;have HL1:QH (RL W1 (.slice av es.length kv) es):=L.keep HG1.o;have HF:=bA b _ p W1 HR1.o;have s1:=HR1.o.shut;have s2:=HR1.o.list;obtain⟨z0,z1,z2,z3,z4,z5,z6,z7,z8⟩:=HC1.o.cells;have zf:=fun i=>HC1.o.free i;unfold ccs Hd.none at hW1;simp only[Hd.none] at z0 z1 z2 z3 z4 z5 z6 z7 z8;have LAST:QH (w.grownBy (gy W1 w.heap.size 0 Hd.none (.slice none 0 0)) none):=ak HG1.o (dc W1 w.heap.size 0 Hd.none (.slice none 0 0)) (fun x e=>by cases e;exact Qj _);unfold gy Hd.none at LAST;simp only[Nat.zero_add] at LAST;unfold nw at hn;clear R L;cases hs:p.shut with
 | false =>
  rw[hs] at s1;clear hn;go_enter func144,ntmps144;go_upto_region 1 with fail;rw[←hW1];clear hW1;go_wp2_with (first | (go_at_call 116;refine HF.mono ?_;rintro e w1 ⟨rfl,h1⟩;obtain rfl:W1=w1:=h1.symm) | fail)
  refine bodyPost_ret (v:=.tuple #[cv Hd.none (.slice none 0 0),.int .i64 6]) (by simp[results,results144,go_sem,z0,z1,z2,z3,z4,z5,z6,z7,z8,cv,Hd.none]) rfl ⟨rfl,LAST.o⟩
 | true =>
  rw[hs] at s1;by_cases h1:n<1
  ·clear hn;go_enter func144,ntmps144;go_upto_region 1 with fail;rw[←hW1];clear hW1;go_wp2_with (first | (go_at_call 116;refine HF.mono ?_;rintro e w1 ⟨rfl,h1⟩;obtain rfl:W1=w1:=h1.symm) | fail)
   refine bodyPost_ret (v:=.tuple #[cv Hd.none (.slice none 0 0),.int .i64 6]) (by simp[results,results144,go_sem,z0,z1,z2,z3,z4,z5,z6,z7,z8,cv,Hd.none]) rfl ⟨rfl,LAST.o⟩
  ·have h2:(es.length:Int)<n:=by
    have:¬(1≤n∧n≤es.length):=fun h=>hn ⟨hs,h⟩;omega
   clear hn;go_enter func144,ntmps144;go_upto_region 1 with fail;rw[←hW1];clear hW1;go_wp2_with (first | (go_at_call 116;refine HF.mono ?_;rintro e w1 ⟨rfl,h1⟩;obtain rfl:W1=w1:=h1.symm) | fail)
   refine bodyPost_ret (v:=.tuple #[cv Hd.none (.slice none 0 0),.int .i64 6]) (by simp[results,results144,go_sem,z0,z1,z2,z3,z4,z5,z6,z7,z8,cv,Hd.none]) rfl ⟨rfl,LAST.o⟩
theorem Ge (ok:Nat→Prop) (b:Nat) (vl:Value) (p:Pl) (es:List Ent) (m:Nat) (e0:Ent) (w:World) (R:RJ w b vl p) (L:RL w vl es) (h64:es.length≤64) (hG:dA ok w es) (hs:p.shut=true) (he:es[m]?=some e0) (hl:e0.ps.length≤4):Calls prog 144 #[.pointer (some ⟨b,0,none⟩),.int .i64 ((m:Int)+1)] w fun e w'=>∃ u,e=.returned (.tuple #[cv e0.h u,.int .i64 0])∧bJ w' w.heap.size u e0.ps∧w.grownBy w' none:=by
 obtain⟨W1,hW1⟩:=Qe (w.alloc (.cells (ccs Hd.none (.slice none 0 0)) 111));have HG1:QH (w.grownBy W1 none):=by rw[hW1];exact QG
 have HC1:QH (CAt W1 w.heap.size Hd.none (.slice none 0 0)):=by rw[hW1];exact aj w _ _
 have hS1:W1.heap.size=w.heap.size+1:=by rw[hW1];simp
 obtain⟨av,kv,rfl⟩:=L.form;have HR1:QH (RJ W1 b (.slice av es.length kv) p):=R.keep HG1.o;have HL1:QH (RL W1 (.slice av es.length kv) es):=L.keep HG1.o;have HF:=bA b _ p W1 HR1.o;have s1:=HR1.o.shut;have s2:=HR1.o.list;rw[hs] at s1;have hm:m<es.length:=(Qh he).1;have PS:=(hG e0 (Qm he)).1.keep HG1.o;obtain⟨g,cap,ev,hrow⟩:=HL1.o.row (by omega);injection ev with e1 _ e3;subst e1;subst e3;have hwm:wrap64 (m:Int)=(m:Int):=by unfold wrap64;omega
 have D:C9 W1 g ((wrap64 (m:Int)).toNat*9) e0.h e0.v:=by rw[hwm];exact hrow m e0 he
 obtain⟨hd,v,ps⟩:=e0;simp only at PS hl D ⊢;obtain⟨a,c,rfl⟩:=PS.form;obtain⟨d0,d1,d2,d3,d4,d5,d6,d7,d8⟩:=D;have HCP:=lh hd (.slice a ps.length c) ps W1 PS (by omega);unfold cv at HCP ⊢;unfold ccs Hd.none at hW1;have q1:¬(m:Int)+1<1:=by omega
 have q2:¬(es.length:Int)<(m:Int)+1:=by omega
 have q4:(0:Int)≤wrap64 (m:Int):=by omega
 have q5:wrap64 (m:Int)<(es.length:Int):=by omega
 clear R L hG he hm h64 PS hl hrow hwm;go_enter func144,ntmps144;go_upto_region 1 with fail;rw[←hW1];clear hW1;go_wp2_with (first | (go_at_call 116;refine HF.mono ?_;rintro e w1 ⟨rfl,h1⟩;obtain rfl:W1=w1:=h1.symm) | (go_at_call 120;refine HCP.mono ?_;rintro e w2 ⟨u,rfl,o2,g2⟩;obtain⟨a2,k2,rfl⟩:=o2.at.form;have HO2:QH (bJ w2 W1.heap.size (.slice a2 ps.length k2) ps):=o2;have HG2:QH (w.grownBy w2 none):=aa HG1.o g2;have C2:=HC1.o.keep g2;obtain⟨z0,z1,z2,z3,z4,z5,z6,z7,z8⟩:=C2.cells;have zf:=fun i=>C2.free i;simp only[Hd.none] at z0 z1 z2 z3 z4 z5 z6 z7 z8;clear o2 C2 d0 d1 d2 d3 d4 d5 d6 d7 d8) | fail)
 refine bodyPost_ret (v:=.tuple #[cv hd (.slice a2 ps.length k2),.int .i64 0]) (by simp[results,results144,go_sem,z0,z1,z2,z3,z4,z5,z6,z7,z8,cv]) rfl ⟨.slice a2 ps.length k2,rfl,?_,?_⟩
 ·have:=(HO2.o.keep (dc w2 w.heap.size 0 hd (.slice a2 ps.length k2)) (fun x e=>by cases e;omega)).big (show w.heap.size≤W1.heap.size by omega);unfold gy at this;simp only[Nat.zero_add] at this;exact this
 ·have:=ak HG2.o (dc w2 w.heap.size 0 hd (.slice a2 ps.length k2)) (fun x e=>by cases e;exact Qj _);unfold gy at this;simp only[Nat.zero_add] at this;exact this
theorem tN (h:w.cell? ⟨g,o,none⟩=some v):g<w.heap.size:=by
 by_cases hg:g<w.heap.size
 ·exact hg
 ·have:w.heap[g]?=none:=Array.getElem?_eq_none (by omega);simp[World.cell?,this] at h
theorem ja.old {ok:Nat→Prop} (h:ja ok w v ps):ja (fun k=>ok k∧k<w.heap.size) w v ps:=by
 obtain⟨h1,h2⟩:=h;refine⟨h1,fun g o n c ev hn=>⟨h2 g o n c ev hn,?_⟩⟩;obtain⟨x,y,hf⟩:=h1.form;rw[hf] at ev;injection ev with e1 e2 e3;have h0:0<ps.length:=by omega
 obtain⟨g',off,cap,ev',hP⟩:=h1.part h0;rw[hf] at ev';injection ev' with e1' _ _;rw[e1] at e1';injection e1' with e1';injection e1' with e1' _ _;subst e1';obtain⟨p,hp⟩:∃ p,ps[0]?=some p:=⟨_,Qg h0⟩
 exact tN (hP 0 p hp).c0
theorem bJ.ok (h:bJ w base v ps):ja (fun k=>base≤k) w v ps:=⟨h.at,fun g o n c ev _=>h.block g (by rw[ev];rfl)⟩
def Fk (w:World) (base:Nat) (v:Value) (fs:List Ent):Prop:=w.ownsRow base 111 9 v fs.length (aH fs)
theorem Fk.rl {fs:List Ent} (h:Fk w base v fs):RL w v fs:=by
 have hh:=h;obtain⟨h1,⟨rfl,h2⟩ | ⟨g,cap,cur,rfl,hb,_⟩⟩:=h
 ·exact Or.inl ⟨rfl,Qay h2⟩
 ·refine Or.inr ⟨g,cap,rfl,fun j e he=>?_⟩
  have at_:∀ k u,k<9→(cvs e.h e.v)[k]?=some u→w.cell? ⟨g,0+j*9+k,none⟩=some u:=fun k u hk hu=>by
   have:=World.ownsRow.cells hh (g:=g) rfl (j*9+k) u (by rw[lm fs j e he k hk];exact hu);rw[dq] at this;rw[Qa8] at this ⊢;exact this
  exact⟨at_ 0 _ (by omega) rfl,at_ 1 _ (by omega) rfl,at_ 2 _ (by omega) rfl,at_ 3 _ (by omega) rfl,at_ 4 _ (by omega) rfl,at_ 5 _ (by omega) rfl,at_ 6 _ (by omega) rfl,at_ 7 _ (by omega) rfl,at_ 8 _ (by omega) rfl⟩
theorem kX (h:Hd) (a:Option Addr) (n c:Nat):∀ u∈cvs h (.slice a n c),u.oneCell'=true:=fun u hu=>by
 simp only[cvs,List.mem_cons,List.not_mem_nil,or_false] at hu
 rcases hu with rfl | rfl | rfl | rfl | rfl | rfl | rfl | rfl | rfl <;> rfl
theorem info111:(prog.info? 111).map (fun i=>(i.zero,i.size,i.bytes))=some (some (.agg #[.string ByteArray.empty,.int .u8 0,.int .u8 0,.int .i64 0,.int .i64 0,.int .i64 0,.int .u16 0,.bool false,.slice none 0 0]),9,80):=by kernel_rfl
theorem fT (gs:List Ent) (e:Ent):aH (gs++[e])=aH gs++cvs e.h e.v:=by rw[gG];simp[aH]
def hp (e:Ent):Hd×List Pt:=(e.h,e.ps)
theorem kW {h:Hd}:∀ j u,(cvs h v)[j]?=some u→(w.alloc (.cells (ccs h v) 111)).cell? ((⟨w.heap.size,0,none⟩:Addr).add j)=some u:=fun j u hu=>by
 rw[dq,ae (aj w _ _),Qa8];show (cvs h v).toArray[j]?=_;rw[Qbc];exact hu
theorem qR {w2 w7:World} {v':Value} {h:Hd} {ok:Nat→Prop} (hG:dA (fun k=>ok k∧some k≠v.ownBlock) wr gs) (g2:wr.grownBy w2 none) (hO:wr.ownsRow base 111 9 v gs.length (aH gs)) (hU:bJ w2 wr.heap.size u ps) (hok:∀ k,wr.heap.size≤k→ok k) (g7:(w2.alloc (.cells (ccs h u) 111)).grownBy w7 v.ownBlock) (hv:v'.ownBlock=v.ownBlock∨v'.ownBlock=some (w2.alloc (.cells (ccs h u) 111)).heap.size):dA (fun k=>ok k∧some k≠v'.ownBlock) w7 (gs++[⟨h,u,ps⟩]):=by
 have sz2:wr.heap.size≤w2.heap.size:=g2.size;have sz3:w2.heap.size<(w2.alloc (.cells (ccs h u) 111)).heap.size:=by simp
 have key:∀ k,ok k→some k≠v.ownBlock→k<w2.heap.size→some k≠v'.ownBlock:=fun k h1 h2 h3=>by
  rcases hv with e | e
  ·rw[e];exact h2
  ·rw[e];intro e';injection e' with e';omega
 intro e he
 rcases Qd2.1 he with he | he
 ·have h1:=(((hG e he).old).keep g2).keep (Qa0 w2 (.cells (ccs h u) 111) none);have h2:=h1.keepR g7 (fun k hk=>hk.1.2);exact h2.mono fun k hk=>⟨hk.1.1,key k hk.1.1 hk.1.2 (by omega)⟩
 ·obtain rfl:e=⟨h,u,ps⟩:=by simpa using he
  have h1:=(hU.ok.old).keep (Qa0 w2 (.cells (ccs h u) 111) none)
  have ne:∀ k,wr.heap.size≤k→some k≠v.ownBlock:=fun k hk e'=>by
   have:=(Qa5 hO k e'.symm).2;omega
  have h2:=h1.keepR g7 (fun k hk=>ne k hk.1);exact h2.mono fun k hk=>⟨hok k hk.1,key k (hok k hk.1) (ne k hk.1) hk.2⟩
def NoA (fs:List Ent) (h:Hd) (m:Nat):Prop:=∀ (j:Nat) e,j<m→fs[j]?=some e→¬ord h e.h<0
theorem NoA.next {fs:List Ent} {h:Hd} {e:Ent} (k:NoA fs h m) (he:fs[m]?=some e) (hn:¬ord h e.h<0):NoA fs h (m+1):=fun j x hj hx=>by
 rcases (show j<m∨j=m from by omega) with h1 | rfl
 ·exact k j x h1 hx
 ·rw[he] at hx;obtain rfl:=Qa1 hx;exact hn
theorem CG:∀ (fs:List Ent) (h:Hd) (m:Nat),m≤fs.length→(∀ x∈fs,¬x.h.nm=h.nm)→NoA fs h m→(∀ e,fs[m]?=some e→ord h e.h<0)→rk fs h=m
 | [],h,m,hm,_,_,_=>by simp at hm;subst hm;rfl
 | x :: r,h,0,_,_,_,hl=>by
  have h1:=(j6 _ _).1 (hl x rfl);have h2:¬ord x.h h<0:=fun k=>Ahd.irrefl _ (h1.trans ((j6 _ _).1 k));simp only[rk];rw[if_neg h2]
 | x :: r,h,m+1,hm,hu,hn,hl=>by
  have h1:¬Ahd h x.h:=fun k=>hn 0 x (Nat.succ_pos _) rfl ((j6 _ _).2 k);have h2:Ahd x.h h:=(Ahd.tri (hu x (by simp))).resolve_right h1;have ih:=CG r h m (by simpa using hm) (fun y hy=>hu y (Qar _ hy)) (fun j e hj he=>hn (j+1) e (by omega) (by simpa using he)) (fun e he=>hl e (by simpa using he));simp only[rk];rw[if_pos ((j6 _ _).2 h2),ih]
def St (fs:List Ent) (h:Hd) (ps:List Pt) (gs:List Ent) (i:Nat) (pb:Bool):Prop:=(pb=false∧gs=fs.take i∧NoA fs h i)∨(pb=true∧∃ u m,m<i∧gs=fs.take m++(⟨h,u,ps⟩:Ent) :: (fs.take i).drop m∧NoA fs h m∧∀ e,fs[m]?=some e→ord h e.h<0)
theorem St.len {fs:List Ent} {h:Hd} {pb:Bool} (s:St fs h ps gs i pb):gs.length≤i+1:=by
 rcases s with ⟨_,rfl,_⟩ | ⟨_,u,m,hm,rfl,_⟩
 ·rw[Qam];omega
 ·rw[Qa,Qau,Qam,Qbx,Qam];omega
theorem pZ {fs:List Ent} {e:Ent} (he:fs[i]?=some e):fs.take (i+1)=fs.take i++[e]:=by
 rw[Qat,he];rfl
theorem St.old {fs:List Ent} {h:Hd} {e:Ent} (s:St fs h ps gs i false) (he:fs[i]?=some e) (hn:¬ord h e.h<0):St fs h ps (gs++[e]) (i+1) false:=by
 rcases s with ⟨_,rfl,k⟩ | ⟨c,_⟩
 ·exact Or.inl ⟨rfl,(pZ he).symm,k.next he hn⟩
 ·cases c
theorem St.put {fs:List Ent} {h:Hd} {e:Ent} (s:St fs h ps gs i false) (he:fs[i]?=some e) (hn:ord h e.h<0) (u:Value):St fs h ps ((gs++[(⟨h,u,ps⟩:Ent)])++[e]) (i+1) true:=by
 rcases s with ⟨_,rfl,k⟩ | ⟨c,_⟩
 ·have hl:=(Qh he).1;refine Or.inr ⟨rfl,u,i,by omega,?_,k,fun x hx=>by rw[he] at hx;obtain rfl:=Qa1 hx;exact hn⟩;rw[pZ he,Qc4 (by rw[Qam];omega),Qbl (by rw[Qam];omega)];simp
 ·cases c
theorem St.on {fs:List Ent} {h:Hd} {e:Ent} (s:St fs h ps gs i true) (he:fs[i]?=some e):St fs h ps (gs++[e]) (i+1) true:=by
 rcases s with ⟨c,_⟩ | ⟨_,u,m,hm,rfl,k,l⟩
 ·cases c
 ·have hl:=(Qh he).1;refine Or.inr ⟨rfl,u,m,by omega,?_,k,l⟩;rw[pZ he,Qc4 (by rw[Qam];omega)];simp
theorem St.endT {fs:List Ent} {h:Hd} (s:St fs h ps gs fs.length true) (hu:∀ x∈fs,¬x.h.nm=h.nm):∃ u,gs=ins fs ⟨h,u,ps⟩:=by
 rcases s with ⟨c,_⟩ | ⟨_,u,m,hm,rfl,k,l⟩
 ·cases c
 ·refine⟨u,?_⟩;unfold ins;rw[show rk fs (⟨h,u,ps⟩:Ent).h=m from CG fs h m (by omega) hu k l,Qas]
theorem St.endF {fs:List Ent} {h:Hd} (s:St fs h ps gs fs.length false) (hu:∀ x∈fs,¬x.h.nm=h.nm) (u:Value):gs++[(⟨h,u,ps⟩:Ent)]=ins fs ⟨h,u,ps⟩:=by
 rcases s with ⟨_,rfl,k⟩ | ⟨c,_⟩
 ·unfold ins;rw[show rk fs (⟨h,u,ps⟩:Ent).h=fs.length from CG fs h fs.length (Qj _) hu k (fun e he=>by simp at he),Qbf]
 ·cases c
theorem pT {w7:World} {v':Value} {e:Ent} {ok:Nat→Prop} (hG:dA (fun k=>ok k∧some k≠v.ownBlock) wr gs) (hO:wr.ownsRow base 111 9 v gs.length (aH gs)) (hE:ja (fun k=>ok k∧k<base) wr e.v e.ps) (hb:base≤wr.heap.size) (g7:(wr.alloc (.cells (ccs e.h e.v) 111)).grownBy w7 v.ownBlock) (hv:v'.ownBlock=v.ownBlock∨v'.ownBlock=some (wr.alloc (.cells (ccs e.h e.v) 111)).heap.size):dA (fun k=>ok k∧some k≠v'.ownBlock) w7 (gs++[e]):=by
 have sz3:wr.heap.size<(wr.alloc (.cells (ccs e.h e.v) 111)).heap.size:=by simp
 have key:∀ k,some k≠v.ownBlock→k<wr.heap.size→some k≠v'.ownBlock:=fun k h2 h3=>by
  rcases hv with e | e
  ·rw[e];exact h2
  ·rw[e];intro e';injection e' with e';omega
 intro x hx
 rcases Qd2.1 hx with hx | hx
 ·have h1:=((hG x hx).old).keep (Qa0 wr (.cells (ccs e.h e.v) 111) none);have h2:=h1.keepR g7 (fun k hk=>hk.1.2);exact h2.mono fun k hk=>⟨hk.1.1,key k hk.1.2 (by omega)⟩
 ·obtain rfl:x=e:=by simpa using hx
  have h1:=hE.keep (Qa0 wr (.cells (ccs x.h x.v) 111) none)
  have ne:∀ k,k<base→some k≠v.ownBlock:=fun k hk e'=>by
   have:=(Qa5 hO k e'.symm).1;omega
  have h2:=h1.keepR g7 (fun k hk=>ne k hk.2);exact h2.mono fun k hk=>⟨hk.1,key k (ne k hk.2) (by omega)⟩
def bv (s:Int):BitVec 16:=BitVec.ofInt 16 s
theorem yp (x:BitVec 16):IntKind.u16.wrap (x.toNat:Int)=(x.toNat:Int):=by
 have:=x.isLt;rw[IntKind.wrap_u16];omega
theorem Cu (x:BitVec 16):bv (x.toNat:Int)=x:=by
 unfold bv;rw[BitVec.ofInt_natCast,BitVec.ofNat_toNat,BitVec.setWidth_eq]
theorem jm (a b:Int):bits .andNot .u16 a b=((bv a &&& ~~~bv b).toNat:Int):=by
 show IntKind.u16.wrap ((BitVec.ofInt 16 a &&& ~~~BitVec.ofInt 16 b).toNat:Int)=_;rw[yp];rfl
theorem yR (a b:Int):bits .or .u16 a b=((bv a ||| bv b).toNat:Int):=by
 show IntKind.u16.wrap ((BitVec.ofInt 16 a ||| BitVec.ofInt 16 b).toNat:Int)=_;rw[yp];rfl
theorem nN (s:Int):cM s=(bv s &&& ~~~255#16 == 0#16):=by
 unfold cM;rw[jm];have e:bv 255=255#16:=by decide
 rw[e];by_cases h:bv s &&& ~~~255#16=0#16
 ·rw[h];rfl
 ·have hn:¬(bv s &&& ~~~255#16).toNat=0:=fun e=>h (BitVec.eq_of_toNat_eq (by rw[e];rfl));have h1:¬((bv s &&& ~~~255#16).toNat:Int)=0:=by omega
  rw[beq_eq_false_iff_ne.2 h1,beq_eq_false_iff_ne.2 h]
theorem yP (x m:BitVec 16):(x &&& ~~~m=0#16)↔(x &&& m=x):=by
 constructor
 ·intro h;apply BitVec.eq_of_getLsbD_eq;intro i hi;have hb:(x &&& ~~~m).getLsbD i=false:=by rw[h,BitVec.getLsbD_zero]
  rw[BitVec.getLsbD_and,BitVec.getLsbD_not] at hb;rw[BitVec.getLsbD_and];revert hb;cases x.getLsbD i <;> cases m.getLsbD i <;> simp[hi]
 ·intro h;apply BitVec.eq_of_getLsbD_eq;intro i hi;have hb:(x &&& m).getLsbD i=x.getLsbD i:=by rw[h]
  rw[BitVec.getLsbD_and] at hb;rw[BitVec.getLsbD_and,BitVec.getLsbD_not,BitVec.getLsbD_zero];revert hb;cases x.getLsbD i <;> cases m.getLsbD i <;> simp
theorem ns (s:Int) (h0:0≤s) (h1:s<65536):cM s=decide (s<256):=by
 obtain⟨n,rfl⟩:=Qbr h0;rw[nN]
 have hn:(bv (n:Int)).toNat=n:=by
  unfold bv;rw[BitVec.ofInt_natCast,BitVec.toNat_ofNat];omega
 have hm:(bv (n:Int) &&& 255#16).toNat=n % 256:=by
  rw[BitVec.toNat_and,hn];exact Nat.and_two_pow_sub_one_eq_mod n 8
 by_cases h:n<256
 ·have e:bv (n:Int) &&& ~~~255#16=0#16:=(yP _ _).2 (BitVec.eq_of_toNat_eq (by rw[hm,hn];omega));have h':(n:Int)<256:=by omega
  rw[e,Qy h'];rfl
 ·have e:¬bv (n:Int) &&& ~~~255#16=0#16:=fun e=>by
   have:=congrArg BitVec.toNat ((yP _ _).1 e);rw[hm,hn] at this;omega
  have h':¬(n:Int)<256:=by omega
  rw[Qx h',beq_eq_false_iff_ne.2 e]
