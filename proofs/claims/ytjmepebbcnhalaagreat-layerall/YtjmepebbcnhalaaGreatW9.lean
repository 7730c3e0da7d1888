import Derived.Test.YtjmepebbcnhalaaGreatW8
import Derived.Test.YtjmepebbcnhalaaGreatWB4
import Derived.DeepKeys
import Derived.ChangeKeysEq
import Derived.Deep.MidRow
namespace Go.Proofs.YtjmepebbcnhalaaGreat
set_option maxRecDepth 100000
set_option maxHeartbeats 4000000
open Go.RowKit
def lh (es:List Ent) (n:Nat):Int:=match es[n]? with
 | some e=>e.h.kd
 | none=>0
def fq (es:List Ent) (p:Pt):Int:=if ¬p.vb=7 then 0 else if pos (bs es) p.nm<0 then 6 else if lh es (pos (bs es) p.nm).toNat=2 then 8 else 0
def dC (es:List Ent):List Pt→Int
 | []=>0
 | p :: r=>if ¬fq es p=0 then fq es p else dC es r
def gY (es:List Ent):List Ent→Int
 | []=>0
 | e :: r=>if ¬dC es e.ps=0 then dC es e.ps else gY es r
def fX (p:Pl) (es:List Ent):Int:=if p.shut=true then 7 else gY es es
def dG (p:Pl) (es:List Ent):Pl:=if fX p es=0 then { p with shut:=true } else p
theorem nL (b:Nat) (es:List Ent) (p:Pl) (x:Pt) (w:World) (hB:dH w b es p) (hs:Slc es):Calls Tryz.prog 127 #[.pointer (some ⟨b,0,none⟩),pv x] w fun e w'=>e=.returned (.int .i64 (fq es x))∧w.grownBy w' none:=by
 obtain⟨wn,vb,wm,ct,su,tr,mr,nm⟩:=x
 obtain⟨W1,hW1⟩:∃ W1,W1=w.alloc (.cells #[.int .u8 wn,.int .u8 vb,.int .u8 wm,.int .i64 ct,.int .u8 su,.int .u8 tr,.int .u8 mr,.string nm] 62):=⟨_,rfl⟩
 have HG1:Hid (w.grownBy W1 none):=by rw[hW1];exact World.grownBy_alloc _ _ none
 have A:W1.heap[w.heap.size]?=some (.cells #[.int .u8 wn,.int .u8 vb,.int .u8 wm,.int .i64 ct,.int .u8 su,.int .u8 tr,.int .u8 mr,.string nm] 62 (0,0)):=by rw[hW1];exact ak w _ _
 have HB1:Hid (dH W1 b es p):=hB.keep HG1.out
 have a1:=ae A 1
 have a7:=ae A 7
 clear A hB
 unfold pv
 simp only
 by_cases h7:vb=7
 case neg =>
  have e1:fq es ⟨wn,vb,wm,ct,su,tr,mr,nm⟩=0:=if_pos h7
  rw[e1]
  have h7':(vb != 7)=true:=by simpa using h7
  clear e1 h7
  go_enter Tryz.func127,Tryz.ntmps127
  go_upto_region 1 with fail
  rw[←hW1]
  clear hW1
  go_wp2
  go_ret
  exact⟨rfl,HG1.out⟩
 case pos =>
  have e0:fq es ⟨wn,vb,wm,ct,su,tr,mr,nm⟩=if pos (bs es) nm<0 then 6 else if lh es (pos (bs es) nm).toNat=2 then 8 else 0:=if_neg (by simp[h7])
  have HP:=oD b es p nm W1 HB1.out hs
  obtain⟨q,hq⟩:∃ q,q=pos (bs es) nm:=⟨_,rfl⟩
  have hq1:=lw (bs es) nm
  rw[nX] at hq1
  rw[←hq] at HP e0 hq1
  rw[e0]
  subst h7
  have hl:=HB1.out.len
  clear hq e0
  by_cases h0:q<0
  ·rw[if_pos h0]
   clear hq1 hl
   go_enter Tryz.func127,Tryz.ntmps127
   go_upto_region 1 with fail
   rw[←hW1]
   clear hW1
   go_wp2_with (first | (go_at_call 177;refine HP.mono ?_;rintro e w2 ⟨rfl,g2⟩) | fail)
   go_ret
   exact⟨rfl,aa HG1.out g2⟩
  ·rw[if_neg h0]
   obtain⟨n,rfl⟩:=Int.eq_ofNat_of_zero_le (show 0≤q by omega)
   have hn:n<es.length:=by omega
   obtain⟨e,he⟩:∃ e,es[n]?=some e:=⟨_,List.getElem?_eq_getElem hn⟩
   have ek:lh es ((n:Int).toNat)=e.h.kd:=by show lh es n=_;unfold lh;rw[he]
   rw[ek]
   have n0:(0:Int)≤(n:Int):=by omega
   have n6:(n:Int)<64:=by omega
   have HK:Hid (∀ W2,W1.grownBy W2 none→W2.cell? ⟨b,n*9+2,none⟩=some (.int .u8 e.h.kd)):=fun W2 g=>by
    have:=((HB1.out.keep g).row n e he).c2
    rwa [Nat.zero_add] at this
   clear ek he hn hq1 hl h0
   by_cases h2:e.h.kd=2
   ·rw[if_pos h2]
    have h2':(e.h.kd == 2)=true:=by simpa using h2
    clear h2
    go_enter Tryz.func127,Tryz.ntmps127
    go_upto_region 1 with fail
    rw[←hW1]
    clear hW1
    go_wp2_with (first | (go_at_call 177;refine HP.mono ?_;rintro e w2 ⟨rfl,g2⟩;have kk:=HK.out _ g2) | fail)
    go_ret
    exact⟨rfl,aa HG1.out g2⟩
   ·rw[if_neg h2]
    have h2':(e.h.kd == 2)=false:=by simpa using h2
    clear h2
    go_enter Tryz.func127,Tryz.ntmps127
    go_upto_region 1 with fail
    rw[←hW1]
    clear hW1
    go_wp2_with (first | (go_at_call 177;refine HP.mono ?_;rintro e w2 ⟨rfl,g2⟩;have kk:=HK.out _ g2) | fail)
    go_ret
    exact⟨rfl,aa HG1.out g2⟩
theorem BkJ.shutIt {w:World} {b:Nat} {es:List Ent} {junk:List Value} {p:Pl} (h:BkJ w b es junk p):BkJ (w.setCell ⟨b,577,none⟩ (.bool true)) b es junk { p with shut:=true }:=by
 refine⟨?_,h.fit,h.nine,h.five⟩
 rw[aF h.lies,List.setIfInBounds_toArray]
 congr 2
 unfold jq plc
 have h1:=h.fit
 rw[List.set_append_right _ _ (by rw[aO];omega),List.set_append_right _ _ (by rw[aO];omega),aO,show 577 - es.length*9 - junk.length=1 by omega]
 rfl
def lg (es:List Ent) (k:Nat) (r:Int):Prop:=gY es (es.drop k)=r
def gZ (es:List Ent) (ps:List Pt) (j:Nat) (r:Int):Prop:=dC es (ps.drop j)=r
theorem oh {es:List Ent} {k:Nat} {e:Ent} {r:Int} (h:lg es k r) (he:es[k]?=some e):(if ¬dC es e.ps=0 then dC es e.ps else gY es (es.drop (k+1)))=r:=by
 unfold lg at h
 rw[List.drop_eq_getElem_cons (List.getElem?_eq_some_iff.1 he).1,(List.getElem?_eq_some_iff.1 he).2] at h
 exact h
theorem mh {es:List Ent} {ps:List Pt} {j:Nat} {x:Pt} {r:Int} (h:gZ es ps j r) (hx:ps[j]?=some x):(if ¬fq es x=0 then fq es x else dC es (ps.drop (j+1)))=r:=by
 unfold gZ at h
 rw[List.drop_eq_getElem_cons (List.getElem?_eq_some_iff.1 hx).1,(List.getElem?_eq_some_iff.1 hx).2] at h
 exact h
theorem zD (ok:Nat→Prop) (b:Nat) (es:List Ent) (p:Pl) (w:World) (hB:dH w b es p) (hG:cX ok w es) (hL:∀ e∈es,e.ps.length≤4):Calls Tryz.prog 55 #[.pointer (some ⟨b,0,none⟩)] w fun e w'=>e=.returned (.int .i64 (fX p es))∧dH w' b es (dG p es)∧w.grownBy w' (some b):=by
 have HB:Hid (dH w b es p):=hB
 have HGd:Hid (cX ok w es):=hG
 have HLl:Hid (∀ e∈es,e.ps.length≤4):=hL
 have HSl:=hG.slc
 have HR:=iH b es.length p w hB.flags
 have hl64:=hB.len
 have HLi:=kl b es.length hl64 p w hB.flags
 have hm':aZ es.length:=by unfold aZ;omega
 clear hB hG hL
 cases hs:p.shut with
 | true =>
  have e1:fX p es=7:=if_pos hs
  have e2:dG p es=p:=if_neg (by rw[e1];decide)
  rw[e1,e2]
  rw[hs] at HR
  clear e1 e2
  go_enter Tryz.func55,Tryz.ntmps55
  go_wp2_with (first | (go_at_call 110;refine HR.mono ?_;rintro e w1 ⟨rfl,h1⟩;obtain rfl:w=w1:=h1.symm) | fail)
  go_ret
  exact⟨rfl,HB.out,ay _ _⟩
 | false =>
  rw[hs] at HR
  have e1:fX p es=gY es es:=if_neg (by simp[hs])
  obtain⟨r,hr⟩:∃ r,gY es es=r:=⟨_,rfl⟩
  have HE:Hid (dG p es=if r=0 then { p with shut:=true } else p):=by unfold Hid dG;rw[e1,hr]
  have H0:Hid (lg es 0 r):=hr
  rw[e1,hr]
  clear e1 hr
  go_enter Tryz.func55,Tryz.ntmps55
  go_wp2_with (first | (go_at_call 110;refine HR.mono ?_;rintro e w1 ⟨rfl,h1⟩;obtain rfl:w=w1:=h1.symm) | (go_at_call 126;refine HLi.mono ?_;rintro e w1 ⟨rfl,g1,_⟩;have HG1:Hid (w.grownBy w1 none):=g1;clear g1) | fail)
  go_loopw [17] (fun i wr=>∃ k:Nat,k≤es.length∧i=.int .i64 k∧lg es k r∧w.grownBy wr none) (fun i _=>es.length - (intOf i).toNat)
  case atStart=>exact⟨0,Nat.zero_le _,rfl,H0.out,HG1.out⟩
  case round =>
   obtain⟨k,hk,rfl,R,G⟩:=hrel
   have HG:Hid (w.grownBy wr none):=G
   have HQ:Hid (lg es k r):=R
   clear G R H0 HG1
   rcases (show k=es.length∨k<es.length from by omega) with hke | hlt
   ·have e:r=0:=by have:=HQ.out;unfold lg at this;rw[hke,List.drop_length] at this;exact this.symm
    subst e
    subst hke
    have JJ:=HB.out.keep HG.out
    obtain⟨junk,J⟩:=JJ
    have s1:=J.flags.shut
    have sf:=J.free 577
    have HJ:Hid (BkJ wr b es junk p):=J
    clear J hk hl64 HQ
    go_wp2
    go_ret
    refine⟨rfl,?_,aV HG.out (aw _ _ _ _)⟩
    rw[HE.out]
    simp only[if_true]
    exact⟨junk,HJ.out.shutIt⟩
   ·have hlt':(k:Int)<(es.length:Int):=by omega
    have hk0:(0:Int)≤(k:Int):=by omega
    have hw:=hm'.wrap hlt
    obtain⟨e,he⟩:∃ e,es[k]?=some e:=⟨_,List.getElem?_eq_getElem hlt⟩
    have HST:Hid ((if ¬dC es e.ps=0 then dC es e.ps else gY es (es.drop (k+1)))=r):=oh HQ.out he
    have PS:=(HGd.out e (List.mem_of_getElem? he)).1.keep HG.out
    have hp4:=HLl.out e (List.mem_of_getElem? he)
    have D:=(HB.out.keep HG.out).row k e he
    rw[Nat.zero_add] at D
    obtain⟨hd,v,ps⟩:=e
    simp only at HST PS hp4 D
    obtain⟨a,c,rfl⟩:=PS.form
    obtain⟨d0,d1,d2,d3,d4,d5,d6,d7,d8⟩:=D
    obtain⟨W2,hW2⟩:∃ W2,W2=wr.alloc (.cells (ccs hd (.slice a ps.length c)) 111):=⟨_,rfl⟩
    have HW2:Hid (wr.grownBy W2 none):=by rw[hW2];exact World.grownBy_alloc _ _ none
    have HC2:Hid (CAt W2 wr.heap.size hd (.slice a ps.length c)):=by rw[hW2];exact ak wr _ _
    have HPS:Hid (bY W2 (.slice a ps.length c) ps):=PS.keep HW2.out
    have hmp:aZ ps.length:=by unfold aZ;omega
    unfold ccs at hW2
    clear he PS HQ
    go_upto_region 7 with fail
    rw[←hW2]
    have z8:=HC2.out.cells.2.2.2.2.2.2.2.2
    clear hW2 d0 d1 d2 d3 d4 d5 d6 d7 d8
    obtain⟨q,hq⟩:∃ q,dC es ps=q:=⟨_,rfl⟩
    rw[hq] at HST
    have HQ0:Hid (gZ es ps 0 q):=hq
    clear hq
    obtain⟨wo,ho⟩:∃ wo,wo=wr:=⟨_,rfl⟩
    subst ho
    go_wp2_with fail
    go_loopw [24] (fun i wr2=>∃ j:Nat,j≤ps.length∧i=.int .i64 j∧gZ es ps j q∧W2.grownBy wr2 none) (fun i _=>ps.length - (intOf i).toNat)
    case atStart=>exact⟨0,Nat.zero_le _,rfl,HQ0.out,ay _ _⟩
    case round =>
     obtain⟨j,hj,rfl,R2,G2⟩:=hrel
     have HG2:Hid (W2.grownBy wr none):=G2
     have HQ2:Hid (gZ es ps j q):=R2
     clear R2 G2 HQ0
     have HGw:Hid (w.grownBy wr none):=aa (aa HG.out HW2.out) HG2.out
     rcases (show j=ps.length∨j<ps.length from by omega) with hje | hjt
     ·have e:q=0:=by have:=HQ2.out;unfold gZ at this;rw[hje,List.drop_length] at this;exact this.symm
      have HN:Hid (lg es (k+1) r):=by have:=HST.out;rw[e] at this;exact this
      subst hje
      clear HST HQ2 hj e hp4
      go_wp2_with fail
      go_roundw
      case rel=>exact⟨k+1,hlt,by first | rfl | (rw[hw];rfl),HN.out,HGw.out⟩
      case measure=>first | exact au hlt | (rw[hw];exact au hlt)
     ·have hjt':(j:Int)<(ps.length:Int):=by omega
      have hj0:(0:Int)≤(j:Int):=by omega
      have hwj:=hmp.wrap hjt
      obtain⟨g,o,cap2,ev,PA⟩:=HPS.out.part (by omega)
      injection ev with e1 _ e3
      subst e1
      subst e3
      obtain⟨x,hx⟩:∃ x,ps[j]?=some x:=⟨_,List.getElem?_eq_getElem hjt⟩
      have HSTP:Hid ((if ¬fq es x=0 then fq es x else dC es (ps.drop (j+1)))=q):=mh HQ2.out hx
      obtain⟨p0,p1,p2,p3,p4,p5,p6,p7⟩:=(PA j x hx).keep HG2.out
      have HB3:Hid (∀ W3,wr.grownBy W3 none→dH W3 b es p):=fun W3 g3=>HB.out.keep (aa HGw.out g3)
      clear PA hx HQ2
      obtain⟨x0,x1,x2,x3,x4,x5,x6,x7⟩:=x
      simp only at p0 p1 p2 p3 p4 p5 p6 p7
      obtain⟨W3,hW3⟩:∃ W3,W3=wr.alloc (.cells #[.int .u8 x0,.int .u8 x1,.int .u8 x2,.int .i64 x3,.int .u8 x4,.int .u8 x5,.int .u8 x6,.string x7] 62):=⟨_,rfl⟩
      have HW3:Hid (wr.grownBy W3 none):=by rw[hW3];exact World.grownBy_alloc _ _ none
      have A3:W3.heap[wr.heap.size]?=some (.cells #[.int .u8 x0,.int .u8 x1,.int .u8 x2,.int .i64 x3,.int .u8 x4,.int .u8 x5,.int .u8 x6,.string x7] 62 (0,0)):=by rw[hW3];exact ak wr _ _
      have HCC:=nL b es p ⟨x0,x1,x2,x3,x4,x5,x6,x7⟩ W3 (HB3.out _ HW3.out) HSl
      unfold pv at HCC
      simp only at HCC
      obtain⟨t,ht⟩:∃ t,fq es ⟨x0,x1,x2,x3,x4,x5,x6,x7⟩=t:=⟨_,rfl⟩
      rw[ht] at HCC HSTP
      clear ht
      go_upto_region 10 with fail
      rw[←hW3]
      clear hW3 p0 p1 p2 p3 p4 p5 p6 p7
      have y0:=ae A3 0
      have y1:=ae A3 1
      have y2:=ae A3 2
      have y3:=ae A3 3
      have y4:=ae A3 4
      have y5:=ae A3 5
      have y6:=ae A3 6
      have y7:=ae A3 7
      clear A3
      by_cases ht0:t=0
      ·have HN:Hid (gZ es ps (j+1) q):=by have:=HSTP.out;rw[if_neg (by simp[ht0])] at this;exact this
       have ht':(t != 0)=false:=by simp[ht0]
       subst ht0
       clear HSTP
       go_wp2_with (first | (go_at_call 127;refine HCC.mono ?_;rintro e w4 ⟨rfl,g4⟩;have HG4:Hid (W2.grownBy w4 none):=aa (aa HG2.out HW3.out) g4) | fail)
       go_roundw
       case rel=>exact⟨j+1,hjt,by first | rfl | (rw[hwj];rfl),HN.out,HG4.out⟩
       case measure=>first | exact au hjt | (rw[hwj];exact au hjt)
      ·have e1:t=q:=by have:=HSTP.out;rw[if_pos ht0] at this;exact this
       have e2:q=r:=by have:=HST.out;rw[if_pos (by rw[←e1];exact ht0)] at this;exact this
       have ht':(t != 0)=true:=by simpa using ht0
       have HE':Hid (dG p es=p):=by have:=HE.out;rw[if_neg (by rw[←e2,←e1];exact ht0)] at this;exact this
       have HT:Hid (t=r):=e1.trans e2
       clear HSTP HST HE e1 e2 ht0
       go_wp2_with (first | (go_at_call 127;refine HCC.mono ?_;rintro e w4 ⟨rfl,g4⟩;have HG4:Hid (wr.grownBy w4 none):=aa HW3.out g4) | fail)
       go_ret
       refine⟨aK HT.out,?_,aV (aa HGw.out HG4.out) (ay _ _)⟩
       rw[HE'.out]
       exact HB3.out _ HG4.out
set_option maxHeartbeats 2000000
def mD (p:Pl) (es:List Ent) (n:Int):Prop:=p.shut=true∧1≤n∧n≤es.length
theorem Cv (v:Value) (n:Int) (w:World) (h:nN w v):Calls Tryz.prog 189 #[v,.int .i64 n] w fun e w'=>e=.returned (.tuple #[cv Hd.none (.slice none 0 0),.int .i64 1])∧w.grownBy w' none:=by
 obtain⟨W1,hW1⟩:∃ W1,W1=w.alloc (.cells (ccs Hd.none (.slice none 0 0)) 111):=⟨_,rfl⟩
 have HG1:Hid (w.grownBy W1 none):=by rw[hW1];exact World.grownBy_alloc _ _ none
 have HC1:Hid (CAt W1 w.heap.size Hd.none (.slice none 0 0)):=by rw[hW1];exact ak w _ _
 have H:Hid (nN W1 v):=h.keep HG1.out
 obtain⟨z0,z1,z2,z3,z4,z5,z6,z7,z8⟩:=HC1.out.cells
 have zf:=fun i=>HC1.out.free i
 unfold ccs Hd.none at hW1
 simp only[Hd.none] at z0 z1 z2 z3 z4 z5 z6 z7 z8
 clear h
 go_enter Tryz.func189,Tryz.ntmps189
 go_upto_region 1 with fail
 rw[←hW1]
 clear hW1
 go_wp2_with (first | (go_at_call 128;refine(wO _ _ H.out).mono ?_;rintro e w1 ⟨rfl,h1⟩;obtain rfl:W1=w1:=h1.symm) | fail)
 refine bodyPost_ret (v:=.tuple #[cv Hd.none (.slice none 0 0),.int .i64 1]) (by simp[results,Tryz.results189,go_sem,z0,z1,z2,z3,z4,z5,z6,z7,z8,cv,Hd.none]) rfl ⟨rfl,?_⟩
 have:=az HG1.out (cH W1 w.heap.size 0 Hd.none (.slice none 0 0)) (fun x e=>by cases e;exact Nat.le_refl _)
 unfold fU Hd.none at this
 simp only[Nat.zero_add] at this
 exact this
theorem Cm (b:Nat) (es:List Ent) (p:Pl) (n:Int) (w:World) (hB:dH w b es p) (hn:¬mD p es n):Calls Tryz.prog 189 #[.pointer (some ⟨b,0,none⟩),.int .i64 n] w fun e w'=>e=.returned (.tuple #[cv Hd.none (.slice none 0 0),.int .i64 6])∧w.grownBy w' none:=by
 obtain⟨W1,hW1⟩:∃ W1,W1=w.alloc (.cells (ccs Hd.none (.slice none 0 0)) 111):=⟨_,rfl⟩
 have HG1:Hid (w.grownBy W1 none):=by rw[hW1];exact World.grownBy_alloc _ _ none
 have HC1:Hid (CAt W1 w.heap.size Hd.none (.slice none 0 0)):=by rw[hW1];exact ak w _ _
 have HB1:Hid (dH W1 b es p):=hB.keep HG1.out
 have HF:=fM b es.length p W1 HB1.out.flags
 have s1:=HB1.out.flags.shut
 have s2:=HB1.out.flags.count
 obtain⟨z0,z1,z2,z3,z4,z5,z6,z7,z8⟩:=HC1.out.cells
 have zf:=fun i=>HC1.out.free i
 unfold ccs Hd.none at hW1
 simp only[Hd.none] at z0 z1 z2 z3 z4 z5 z6 z7 z8
 have LAST:Hid (w.grownBy (fU W1 w.heap.size 0 Hd.none (.slice none 0 0)) none):=az HG1.out (cH W1 w.heap.size 0 Hd.none (.slice none 0 0)) (fun x e=>by cases e;exact Nat.le_refl _)
 unfold fU Hd.none at LAST
 simp only[Nat.zero_add] at LAST
 unfold mD at hn
 clear hB
 cases hs:p.shut with
 | false =>
  rw[hs] at s1
  clear hn
  go_enter Tryz.func189,Tryz.ntmps189
  go_upto_region 1 with fail
  rw[←hW1]
  clear hW1
  go_wp2_with (first | (go_at_call 128;refine HF.mono ?_;rintro e w1 ⟨rfl,h1⟩;obtain rfl:W1=w1:=h1.symm) | fail)
  refine bodyPost_ret (v:=.tuple #[cv Hd.none (.slice none 0 0),.int .i64 6]) (by simp[results,Tryz.results189,go_sem,z0,z1,z2,z3,z4,z5,z6,z7,z8,cv,Hd.none]) rfl ⟨rfl,LAST.out⟩
 | true =>
  rw[hs] at s1
  by_cases h1:n<1
  ·clear hn
   go_enter Tryz.func189,Tryz.ntmps189
   go_upto_region 1 with fail
   rw[←hW1]
   clear hW1
   go_wp2_with (first | (go_at_call 128;refine HF.mono ?_;rintro e w1 ⟨rfl,h1⟩;obtain rfl:W1=w1:=h1.symm) | fail)
   refine bodyPost_ret (v:=.tuple #[cv Hd.none (.slice none 0 0),.int .i64 6]) (by simp[results,Tryz.results189,go_sem,z0,z1,z2,z3,z4,z5,z6,z7,z8,cv,Hd.none]) rfl ⟨rfl,LAST.out⟩
  ·have h2:(es.length:Int)<n:=by
    have:¬(1≤n∧n≤es.length):=fun h=>hn ⟨hs,h⟩
    omega
   have h1':1≤n:=by omega
   clear hn h1
   go_enter Tryz.func189,Tryz.ntmps189
   go_upto_region 1 with fail
   rw[←hW1]
   clear hW1
   go_wp2_with (first | (go_at_call 128;refine HF.mono ?_;rintro e w1 ⟨rfl,h1⟩;obtain rfl:W1=w1:=h1.symm) | fail)
   refine bodyPost_ret (v:=.tuple #[cv Hd.none (.slice none 0 0),.int .i64 6]) (by simp[results,Tryz.results189,go_sem,z0,z1,z2,z3,z4,z5,z6,z7,z8,cv,Hd.none]) rfl ⟨rfl,LAST.out⟩
theorem CY (ok:Nat→Prop) (b:Nat) (es:List Ent) (p:Pl) (m:Nat) (e0:Ent) (w:World) (hB:dH w b es p) (hG:cX ok w es) (hs:p.shut=true) (he:es[m]?=some e0) (hl:e0.ps.length≤4):Calls Tryz.prog 189 #[.pointer (some ⟨b,0,none⟩),.int .i64 ((m:Int)+1)] w fun e w'=>∃ u,e=.returned (.tuple #[cv e0.h u,.int .i64 0])∧bA w' w.heap.size u e0.ps∧w.grownBy w' none:=by
 obtain⟨W1,hW1⟩:∃ W1,W1=w.alloc (.cells (ccs Hd.none (.slice none 0 0)) 111):=⟨_,rfl⟩
 have HG1:Hid (w.grownBy W1 none):=by rw[hW1];exact World.grownBy_alloc _ _ none
 have HC1:Hid (CAt W1 w.heap.size Hd.none (.slice none 0 0)):=by rw[hW1];exact ak w _ _
 have hS1:W1.heap.size=w.heap.size+1:=by rw[hW1];simp
 have HB1:Hid (dH W1 b es p):=hB.keep HG1.out
 have HF:=fM b es.length p W1 HB1.out.flags
 have s1:=HB1.out.flags.shut
 have s2:=HB1.out.flags.count
 rw[hs] at s1
 have hm:m<es.length:=(List.getElem?_eq_some_iff.1 he).1
 have h64:=HB1.out.len
 have PS:=(hG e0 (List.mem_of_getElem? he)).1.keep HG1.out
 have D:=HB1.out.row m e0 he
 rw[Nat.zero_add] at D
 obtain⟨hd,v,ps⟩:=e0
 simp only at PS hl D ⊢
 obtain⟨a,c,rfl⟩:=PS.form
 obtain⟨d0,d1,d2,d3,d4,d5,d6,d7,d8⟩:=D
 have HCP:=nZ hd (.slice a ps.length c) ps W1 PS (by omega)
 unfold cv at HCP ⊢
 unfold ccs Hd.none at hW1
 have q1:1≤(m:Int)+1:=by omega
 have q2:(m:Int)+1≤(es.length:Int):=by omega
 have q3:wrap64 ((m:Int)+1 - 1)=(m:Int):=by unfold wrap64;omega
 have q4:(0:Int)≤(m:Int):=by omega
 have q5:(m:Int)<64:=by omega
 clear hB hG he hm h64 PS hl
 go_enter Tryz.func189,Tryz.ntmps189
 go_upto_region 1 with fail
 rw[←hW1]
 clear hW1
 go_wp2_with (first | (go_at_call 128;refine HF.mono ?_;rintro e w1 ⟨rfl,h1⟩;obtain rfl:W1=w1:=h1.symm) | (go_at_call 180;refine HCP.mono ?_;rintro e w2 ⟨u,rfl,o2,g2⟩;obtain⟨a2,k2,rfl⟩:=o2.at.form;have HO2:Hid (bA w2 W1.heap.size (.slice a2 ps.length k2) ps):=o2;have HG2:Hid (w.grownBy w2 none):=aa HG1.out g2;have C2:=HC1.out.keep g2;obtain⟨z0,z1,z2,z3,z4,z5,z6,z7,z8⟩:=C2.cells;have zf:=fun i=>C2.free i;simp only[Hd.none] at z0 z1 z2 z3 z4 z5 z6 z7 z8;clear o2 C2 d0 d1 d2 d3 d4 d5 d6 d7 d8) | fail)
 refine bodyPost_ret (v:=.tuple #[cv hd (.slice a2 ps.length k2),.int .i64 0]) (by simp[results,Tryz.results189,go_sem,z0,z1,z2,z3,z4,z5,z6,z7,z8,cv]) rfl ⟨.slice a2 ps.length k2,rfl,?_,?_⟩
 ·have:=(HO2.out.keep (cH w2 w.heap.size 0 hd (.slice a2 ps.length k2)) (fun x e=>by cases e;omega)).big (show w.heap.size≤W1.heap.size by omega)
  unfold fU at this
  simp only[Nat.zero_add] at this
  exact this
 ·have:=az HG2.out (cH w2 w.heap.size 0 hd (.slice a2 ps.length k2)) (fun x e=>by cases e;exact Nat.le_refl _)
  unfold fU at this
  simp only[Nat.zero_add] at this
  exact this
structure Pl.fine (p:Pl):Prop where
 nine:p.nms.length=9
 five:p.mks.length=5
 nms:∀ s∈p.nms,s.size≤20
 mks:∀ m∈p.mks,0≤m.mi∧m.mi≤4∧-9≤m.po∧m.po≤9∧-9≤m.he∧m.he≤9∧m.nm.size≤20
theorem BkJ.range {w:World} {b:Nat} {es:List Ent} {junk:List Value} {p:Pl} (h:BkJ w b es junk p):w.rangeAt b 576 (plc es.length p):=fun j v hv=>by
 rw[h.tail,hv]
theorem i6.keep {w w':World} {b n:Nat} {p:Pl} (h:i6 w b n p) (g:w.grownBy w' none):i6 w' b n p:=⟨g.cell h.made (by simp),g.cell h.shut (by simp),g.cell h.count (by simp)⟩
theorem nN.form {w:World} {v:Value} (h:nN w v):∃ a,v=.pointer a:=by
 rcases h with rfl | ⟨b,rfl,_⟩
 ·exact⟨_,rfl⟩
 ·exact⟨_,rfl⟩
structure dV (ok:Nat→Prop) (w:World) (b:Nat) (es:List Ent) (p:Pl):Prop where
 lies:dH w b es p
 good:cX ok w es
 srt:Srt es
 fine:p.fine
 may:∀ e∈es,fH e.cd=0
theorem dV.keep {ok:Nat→Prop} {w w':World} {b:Nat} {es:List Ent} {p:Pl} (h:dV ok w b es p) (g:w.grownBy w' none):dV ok w' b es p:=⟨h.lies.keep g,h.good.keep g,h.srt,h.fine,h.may⟩
theorem dV.keepR {ok:Nat→Prop} {w w':World} {b:Nat} {es:List Ent} {p:Pl} {r:Option Nat} (h:dV ok w b es p) (g:w.grownBy w' r) (hb:some b≠r) (hr:∀ k,ok k→some k≠r):dV ok w' b es p:=⟨h.lies.keepR g hb,h.good.keepR g hr,h.srt,h.fine,h.may⟩
theorem dV.parts {ok:Nat→Prop} {w:World} {b:Nat} {es:List Ent} {p:Pl} (h:dV ok w b es p):∀ e∈es,e.ps.length≤4:=fun e he=>(jx (h.may e he)).2.2.1
theorem dV.lt {ok:Nat→Prop} {w:World} {b:Nat} {es:List Ent} {p:Pl} (h:dV ok w b es p):b<w.heap.size:=by obtain⟨j,J⟩:=h.lies;exact bn J.lies
theorem uG:gG.fine:=⟨rfl,rfl,fun s hs=>by simp[gG] at hs;rw[hs];decide,fun m hm=>by simp[gG] at hm;rw[hm];decide⟩
theorem bnew (ok:Nat→Prop) (w:World):Calls Tryz.prog 48 #[] w fun e w'=>e=.returned (.pointer (some ⟨w.heap.size,0,none⟩))∧dV ok w' w.heap.size [] gG∧w.grownBy w' none∧w'.heap.size=w.heap.size+1 :=
 (B7 w).mono fun e w' ⟨h1,h2,h3,h4⟩=>⟨h1,⟨h2,fun e he=>by simp at he,by unfold Srt;exact List.Pairwise.nil,uG,fun e he=>by simp at he⟩,h3,h4⟩
theorem vT {es:List Ent} {e:Ent} (h:e∈es):e.h.nm∈bs es:=List.mem_map.2 ⟨e,h,rfl⟩
theorem CB (ok:Nat→Prop) (b:Nat) (es:List Ent) (p:Pl) (h:Hd) (v:Value) (ps:List Pt) (w:World) (B:dV ok w b es p) (hok:¬ok b) (hnew:∀ k,w.heap.size≤k→ok k) (hp:bY w v ps) (hm:aZ ps.length):Calls Tryz.prog 50 #[.pointer (some ⟨b,0,none⟩),cv h v] w fun e w'=>∃ u,e=.returned (.int .i64 (caE p es (h.with ps)))∧dV ok w' b (if caE p es (h.with ps)=0 then ins es ⟨h,u,ps⟩ else es) p∧w.grownBy w' (some b):=by
 refine(yU ok b es p h v ps w B.lies B.good B.srt hok hp hm).mono ?_
 rintro e w' ⟨u,he,h1,h2,h3⟩
 have G2:=h2.mono (ok':=ok) (fun k hk=>hk.elim id (hnew k))
 refine⟨u,he,?_,h3⟩
 by_cases h0:caE p es (h.with ps)=0
 ·rw[if_pos h0] at h1 G2 ⊢
  have hc:fH (h.with ps)=0∧pos (bs es) h.nm<0:=by
   unfold caE at h0
   split at h0
   ·omega
   ·split at h0
    ·exact absurd h0 (by assumption)
    ·rename_i hq
     split at h0
     ·omega
     ·rename_i hz
      exact⟨by simpa using hq,Int.not_le.1 hz⟩
  refine⟨h1,G2,Aw es _ B.srt (fun x hx e=>pJ hc.2 (e ▸ vT hx)),B.fine,fun x hx=>?_⟩
  rcases (lz es _ x).1 hx with rfl | hx
  ·exact hc.1
  ·exact B.may x hx
 ·rw[if_neg h0] at h1 G2 ⊢
  exact⟨h1,G2,B.srt,B.fine,B.may⟩
theorem zw {p:Pl} (h:p.fine) (m:Mk):(maP p m).fine:=by
 unfold maP
 by_cases h0:maE p m=0
 ·rw[if_pos h0]
  have hn:(0≤m.mi∧m.mi≤4∧-9≤m.po∧m.po≤9∧-9≤m.he∧m.he≤9)∧m.nm.size≤20:=by
   unfold maE at h0
   split at h0
   ·omega
   ·split at h0
    ·omega
    ·rename_i hr
     split at h0
     ·omega
     ·rename_i hz
      have hn:aR m.nm.data.toList=true:=by cases hq:aR m.nm.data.toList with
       | true=>rfl
       | false=>exact absurd hq hz
      have k1:fF m.po=true:=by cases hq:fF m.po with
       | true=>rfl
       | false=>exact absurd (Or.inr (Or.inr (Or.inl hq))) hr
      have k2:fF m.he=true:=by cases hq:fF m.he with
       | true=>rfl
       | false=>exact absurd (Or.inr (Or.inr (Or.inr hq))) hr
      simp only[fF,Bool.and_eq_true,decide_eq_true_eq] at k1 k2
      refine⟨⟨by omega,by omega,k1.1,k1.2,k2.1,k2.2⟩,?_⟩
      rw[Lib.size_eq];exact(iu hn).2
  refine⟨h.nine,by simpa using h.five,h.nms,fun x hx=>?_⟩
  rcases List.mem_or_eq_of_mem_set hx with hx | rfl
  ·exact h.mks x hx
  ·exact⟨hn.1.1,hn.1.2.1,hn.1.2.2.1,hn.1.2.2.2.1,hn.1.2.2.2.2.1,hn.1.2.2.2.2.2,hn.2⟩
 ·rw[if_neg h0];exact h
theorem CX (ok:Nat→Prop) (b:Nat) (es:List Ent) (p:Pl) (m:Mk) (w:World) (B:dV ok w b es p) (hok:¬ok b):Calls Tryz.prog 53 #[.pointer (some ⟨b,0,none⟩),mv m] w fun e w'=>e=.returned (.int .i64 (maE p m))∧dV ok w' b es (maP p m)∧w.grownBy w' (some b) :=
 (Ac b es p m w B.lies).mono fun e w' ⟨h1,h2,h3⟩=>⟨h1,⟨h2,B.good.keepR h3 (fun k hk e=>by cases e;exact hok hk),B.srt,zw B.fine m,B.may⟩,h3⟩
theorem sV {p:Pl} (h:p.fine) (es:List Ent):(dG p es).fine:=by
 unfold dG
 split
 ·exact⟨h.nine,h.five,h.nms,h.mks⟩
 ·exact h
theorem D1 (ok:Nat→Prop) (b:Nat) (es:List Ent) (p:Pl) (w:World) (B:dV ok w b es p) (hok:¬ok b):Calls Tryz.prog 55 #[.pointer (some ⟨b,0,none⟩)] w fun e w'=>e=.returned (.int .i64 (fX p es))∧dV ok w' b es (dG p es)∧w.grownBy w' (some b) :=
 (zD ok b es p w B.lies B.good B.parts).mono fun e w' ⟨h1,h2,h3⟩=>⟨h1,⟨h2,B.good.keepR h3 (fun k hk e=>by cases e;exact hok hk),B.srt,sV B.fine es,B.may⟩,h3⟩
end Go.Proofs.YtjmepebbcnhalaaGreat
