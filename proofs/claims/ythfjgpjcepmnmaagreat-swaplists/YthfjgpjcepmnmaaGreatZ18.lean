/-
  The document's own book: Seal.
  The document's Copy of a card;Ahead;the document's At.
-/
import Derived.Test.YthfjgpjcepmnmaaGreatZ17
import Derived.Deep.Cut
namespace Go.Proofs.YthfjgpjcepmnmaaGreat
set_option maxRecDepth 100000
set_option maxHeartbeats 8000000
open Go.RowKit
theorem RJ.shutIt {w:World} {b:Nat} {v:Value} {p:Pl} (h:RJ w b v p):RJ (w.setCell ⟨b,1,none⟩ (.bool true)) b v { p with shut:=true }:=by
 refine⟨?_,h.nine,h.five⟩
 rw[block_set h.lies,List.setIfInBounds_toArray]
 rfl
def ptA (x:Pt):Array Value:=#[.int .u8 x.wn,.int .u8 x.vb,.int .u8 x.wm,.int .i64 x.ct,.int .u8 x.su,.int .u8 x.tr,.int .u8 x.mr,.string x.nm]
def newP (w:World) (x:Pt):World:=w.alloc (.cells (ptA x) 38)
theorem grown_newP (w:World) (x:Pt):w.grownBy (newP w x) none:=World.grownBy_alloc _ _ none
theorem newP_at (w:World) (x:Pt):(newP w x).heap[w.heap.size]?=some (.cells (ptA x) 38 (0,0)):=alloc_at w _ _
theorem rseal_any (ok:Nat→Prop) (b:Nat) (v:Value) (p:Pl) (fs:List Ent) (w:World) (R:RJ w b v p) (L:RL w v fs) (hl:fs.length≤64) (hG:Good ok w fs) (hL:∀ e∈fs,e.ps.length≤4):Calls Tryz.prog 72 #[.pointer (some ⟨b,0,none⟩)] w fun e w'=>e=.returned (.int .i64 (sealE p fs))∧RJ w' b v (sealP p fs)∧w.grownBy w' (some b):=by
 have HR:Hid (RJ w b v p):=R
 have HL:Hid (RL w v fs):=L
 have HGd:Hid (Good ok w fs):=hG
 have HLl:Hid (∀ e∈fs,e.ps.length≤4):=hL
 have H64:Hid (fs.length≤64):=hl
 have c1:=R.shut
 obtain⟨a,k,rfl⟩:=L.form
 have hsm:Small fs.length:=by unfold Small;omega
 clear R L hG hL hl
 cases hs:p.shut with
 | true =>
  rw[hs] at c1
  have e1:sealE p fs=7:=if_pos hs
  have e2:sealP p fs=p:=if_neg (by rw[e1];decide)
  rw[e1,e2]
  clear e1 e2 hs
  go_enter Tryz.func72,Tryz.ntmps72
  go_wp2_with fail
  refine(rnone_any b _ p w HR.out).mono ?_
  rintro e w1 ⟨rfl,h1⟩
  obtain rfl:w=w1:=h1.symm
  go_wp2
  go_ret
  exact⟨rfl,HR.out,grown_refl _ _⟩
 | false =>
  rw[hs] at c1
  have e1:sealE p fs=sealL fs fs:=if_neg (by simp[hs])
  obtain⟨r,hr⟩:∃ r,sealL fs fs=r:=⟨_,rfl⟩
  have HE:Hid (sealP p fs=if r=0 then { p with shut:=true } else p):=by unfold Hid sealP;rw[e1,hr]
  have H0:Hid (Left fs 0 r):=hr
  rw[e1,hr]
  clear e1 hr hs
  go_enter Tryz.func72,Tryz.ntmps72
  go_wp2_with fail
  refine(rnone_any b _ p w HR.out).mono ?_
  rintro e w1 ⟨rfl,h1⟩
  obtain rfl:w=w1:=h1.symm
  go_wp2_with fail
  go_loopw [3] (fun x3 wr=>∃ k:Nat,k≤fs.length∧x3=.int .i64 k∧Left fs k r∧w.grownBy wr none) (fun x3 _=>fs.length - (intOf x3).toNat)
  case atStart=>exact⟨0,Nat.zero_le _,rfl,H0.out,grown_refl _ _⟩
  case round =>
   obtain⟨i,hi,rfl,hq,G⟩:=hrel
   have HG:Hid (w.grownBy wr none):=G
   have HQ:Hid (Left fs i r):=hq
   have HRr:Hid (RJ wr b (.slice a fs.length k) p):=HR.out.keep G
   have cl:=HRr.out.list
   clear G hq H0 c1
   rcases (show i=fs.length∨i<fs.length from by omega) with hie | hlt
   ·have e:r=0:=by have:=HQ.out;unfold Left at this;rw[hie,List.drop_length] at this;exact this.symm
    subst e
    have i1:¬(i:Int)<(fs.length:Int):=by omega
    have s1:=HRr.out.shut
    have sf:=HRr.out.free 1
    clear hi hie HQ
    go_wp2
    go_ret
    refine⟨rfl,?_,grown_own' HG.out (grown_set _ _ _ _)⟩
    rw[HE.out]
    simp only[if_true]
    exact HRr.out.shutIt
   ·have i1:(i:Int)<(fs.length:Int):=by omega
    have i0:(0:Int)≤(i:Int):=by omega
    obtain⟨g,cap,ev,hrow⟩:=(HL.out.keep HG.out).row (by omega)
    injection ev with e1 _ e3
    subst e1
    subst e3
    obtain⟨e,he⟩:∃ e,fs[i]?=some e:=⟨_,List.getElem?_eq_getElem hlt⟩
    have HST:Hid ((if ¬callsE fs e.ps=0 then callsE fs e.ps else sealL fs (fs.drop (i+1)))=r):=left_step HQ.out he
    have PS:=(HGd.out e (List.mem_of_getElem? he)).1.keep HG.out
    have hp4:=HLl.out e (List.mem_of_getElem? he)
    have C8:=(hrow i e he).c8
    obtain⟨hd,u,ps⟩:=e
    simp only at HST PS hp4 C8
    obtain⟨pa,pc,rfl⟩:=PS.form
    have HPS:Hid (PsAt wr (.slice pa ps.length pc) ps):=PS
    have HC8:Hid (wr.cell? ⟨g,i*9+8,none⟩=some (.slice pa ps.length pc)):=C8
    have hmp:Small ps.length:=by unfold Small;omega
    obtain⟨q,hq⟩:∃ q,callsE fs ps=q:=⟨_,rfl⟩
    rw[hq] at HST
    have HQ0:Hid (LeftP fs ps 0 q):=hq
    clear he PS HQ hq hrow hi C8
    obtain⟨wo,ho⟩:∃ wo,wo=wr:=⟨_,rfl⟩
    subst ho
    go_wp2_with fail
    go_loopw [4] (fun x4 wr2=>∃ j:Nat,j≤ps.length∧x4=.int .i64 j∧LeftP fs ps j q∧wo.grownBy wr2 none) (fun x4 _=>ps.length - (intOf x4).toNat)
    case atStart=>exact⟨0,Nat.zero_le _,rfl,HQ0.out,grown_refl _ _⟩
    case round =>
     obtain⟨j,hj,rfl,R2,G2⟩:=hrel
     have HG2:Hid (wo.grownBy wr none):=G2
     have HQ2:Hid (LeftP fs ps j q):=R2
     have HRj:Hid (RJ wr b (.slice (some ⟨g,0,none⟩) fs.length k) p):=HRr.out.keep G2
     clear R2 G2 HQ0 cl
     have cl:=HRj.out.list
     have c8:=HG2.out.cell HC8.out (by simp)
     have HGw:Hid (w.grownBy wr none):=grown_trans HG.out HG2.out
     rcases (show j=ps.length∨j<ps.length from by omega) with hje | hjt
     ·have e:q=0:=by have:=HQ2.out;unfold LeftP at this;rw[hje,List.drop_length] at this;exact this.symm
      have HN:Hid (Left fs (i+1) r):=by have:=HST.out;rw[e] at this;exact this
      have j1:¬(j:Int)<(ps.length:Int):=by omega
      clear HST HQ2 hj e hp4 hje
      go_wp2_with fail
      go_roundw
      case rel=>exact⟨i+1,hlt,by first | rfl | (rw[hsm.wrap hlt];rfl),HN.out,HGw.out⟩
      case measure=>first | exact meas_next hlt | (rw[hsm.wrap hlt];exact meas_next hlt)
     ·have j1:(j:Int)<(ps.length:Int):=by omega
      have j0:(0:Int)≤(j:Int):=by omega
      obtain⟨pg,po,cap2,ev,PA⟩:=HPS.out.part (by omega)
      injection ev with e1 _ e3
      subst e1
      subst e3
      obtain⟨x,hx⟩:∃ x,ps[j]?=some x:=⟨_,List.getElem?_eq_getElem hjt⟩
      have HSTP:Hid ((if ¬callE fs x=0 then callE fs x else callsE fs (ps.drop (j+1)))=q):=leftP_step HQ2.out hx
      obtain⟨p0,p1,p2,p3,p4,p5,p6,p7⟩:=(PA j x hx).keep HG2.out
      clear PA hx HQ2 hj
      have HW3:Hid (wr.grownBy (newP wr x) none):=grown_newP wr x
      have HA3:Hid ((newP wr x).heap[wr.heap.size]?=some (.cells (ptA x) 38 (0,0))):=newP_at wr x
      obtain⟨W3,hW3⟩:∃ W3,W3=newP wr x:=⟨_,rfl⟩
      rw[←hW3] at HW3 HA3
      unfold newP ptA at hW3
      go_upto_region 12 with fail
      rw[←hW3]
      clear hW3 p0 p1 p2 p3 p4 p5 p6 p7
      have HR3:Hid (RJ W3 b (.slice (some ⟨g,0,none⟩) fs.length k) p):=HRj.out.keep HW3.out
      have HL3:Hid (RL W3 (.slice (some ⟨g,0,none⟩) fs.length k) fs):=HL.out.keep (grown_trans HGw.out HW3.out)
      have HG3:Hid (wo.grownBy W3 none):=grown_trans HG2.out HW3.out
      have y1:=block_cell HA3.out 1
      have y7:=block_cell HA3.out 7
      unfold ptA at y1 y7
      by_cases h7:x.vb=7
      case neg =>
       have e0:callE fs x=0:=if_pos h7
       have HN:Hid (LeftP fs ps (j+1) q):=by have:=HSTP.out;rw[if_neg (by simp[e0])] at this;exact this
       have h7':(x.vb != 7)=true:=by simpa using h7
       clear e0 h7 HSTP
       go_wp2_with fail
       go_roundw
       case rel=>exact⟨j+1,hjt,by first | rfl | (rw[hmp.wrap hjt];rfl),HN.out,HG3.out⟩
       case measure=>first | exact meas_next hjt | (rw[hmp.wrap hjt];exact meas_next hjt)
      case pos =>
       have e0:callE fs x=if pos (names fs) x.nm<0 then 6 else if kdAt fs (pos (names fs) x.nm).toNat=2 then 8 else 0:=if_neg (by simp[h7])
       have h7':(x.vb != 7)=false:=by simp[h7]
       have HP:=rplace_any b _ p fs x.nm W3 HR3.out HL3.out H64.out
       obtain⟨z,hz⟩:∃ z,z=pos (names fs) x.nm:=⟨_,rfl⟩
       have hz1:=pos_low (names fs) x.nm
       rw[names_len] at hz1
       rw[←hz] at HP e0 hz1
       clear hz h7
       by_cases h0:z<0
       ·rw[if_pos h0] at e0
        have e1:(6:Int)=q:=by have:=HSTP.out;rw[if_pos (by rw[e0];decide),e0] at this;exact this
        have e2:q=r:=by have:=HST.out;rw[if_pos (by rw[←e1];decide)] at this;exact this
        have HE':Hid (sealP p fs=p):=by have:=HE.out;rw[if_neg (by rw[←e2,←e1];decide)] at this;exact this
        have HT:Hid ((6:Int)=r):=e1.trans e2
        clear HSTP HST HE e1 e2 e0 hz1
        go_wp2_with fail
        refine HP.mono ?_
        rintro e w4 ⟨rfl,h1⟩
        obtain rfl:W3=w4:=h1.symm
        go_wp2
        go_ret
        refine⟨ret_int HT.out,?_,grown_own' (grown_trans HGw.out HW3.out) (grown_refl _ _)⟩
        rw[HE'.out]
        exact HR3.out
       ·rw[if_neg h0] at e0
        obtain⟨n,rfl⟩:=Int.eq_ofNat_of_zero_le (show 0≤z by omega)
        have hn:n<fs.length:=by omega
        obtain⟨e,he⟩:∃ e,fs[n]?=some e:=⟨_,List.getElem?_eq_getElem hn⟩
        have ek:kdAt fs ((n:Int).toNat)=e.h.kd:=by show kdAt fs n=_;unfold kdAt;rw[he]
        rw[ek] at e0
        have n0:(0:Int)≤(n:Int):=by omega
        have n1:(n:Int)<(fs.length:Int):=by omega
        obtain⟨g',cap',ev',hrow'⟩:=HL3.out.row (by omega)
        injection ev' with e1' _ e3'
        injection e1' with e1'
        injection e1' with e1'
        subst e1'
        have kk:=(hrow' n e he).c2
        have cl3:=HR3.out.list
        clear ek he hn hz1 hrow' e3' cl c8
        by_cases h2:e.h.kd=2
        ·rw[if_pos h2] at e0
         have h2':(e.h.kd == 2)=true:=by simpa using h2
         have e1:(8:Int)=q:=by have:=HSTP.out;rw[if_pos (by rw[e0];decide),e0] at this;exact this
         have e2:q=r:=by have:=HST.out;rw[if_pos (by rw[←e1];decide)] at this;exact this
         have HE':Hid (sealP p fs=p):=by have:=HE.out;rw[if_neg (by rw[←e2,←e1];decide)] at this;exact this
         have HT:Hid ((8:Int)=r):=e1.trans e2
         clear HSTP HST HE e1 e2 e0 h2
         go_wp2_with fail
         refine HP.mono ?_
         rintro e w4 ⟨rfl,h1⟩
         obtain rfl:W3=w4:=h1.symm
         go_wp2
         go_ret
         refine⟨ret_int HT.out,?_,grown_own' (grown_trans HGw.out HW3.out) (grown_refl _ _)⟩
         rw[HE'.out]
         exact HR3.out
        ·rw[if_neg h2] at e0
         have h2':(e.h.kd == 2)=false:=by simpa using h2
         have HN:Hid (LeftP fs ps (j+1) q):=by have:=HSTP.out;rw[if_neg (by simp[e0])] at this;exact this
         clear HSTP e0 h2
         go_wp2_with fail
         refine HP.mono ?_
         rintro e w4 ⟨rfl,h1⟩
         obtain rfl:W3=w4:=h1.symm
         go_wp2_with fail
         go_roundw
         case rel=>exact⟨j+1,hjt,by first | rfl | (rw[hmp.wrap hjt];rfl),HN.out,HG3.out⟩
         case measure=>first | exact meas_next hjt | (rw[hmp.wrap hjt];exact meas_next hjt)
set_option maxHeartbeats 1000000
theorem rcopy_any (h:Hd) (v:Value) (ps:List Pt) (w:World) (hp:PsAt w v ps) (hb:ps.length*40≤140737488355328):Calls Tryz.prog 140 #[cv h v] w fun e w'=>∃ u,e=.returned (cv h u)∧POwn w' w.heap.size u ps∧w.grownBy w' none:=by
 obtain⟨i0,hi,hz0,hz1,hz2⟩:=info_of Tryz.info38
 obtain⟨W2,hW2⟩:∃ W2,W2=(w.alloc (.cells (ccs h v) 54)).alloc (.cells (ccs Hd.none (.slice none 0 0)) 54):=⟨_,rfl⟩
 have G2:w.grownBy W2 none:=by rw[hW2];exact grown_push (World.grownBy_alloc _ _ none) _
 have A2:CAt W2 w.heap.size h v:=by rw[hW2];exact CAt.keep (alloc_at w _ _) (World.grownBy_alloc _ _ none)
 have Z2:CAt W2 (w.heap.size+1) Hd.none (.slice none 0 0):=by
  have:=alloc_at (w.alloc (.cells (ccs h v) 54)) (ccs Hd.none (.slice none 0 0)) 54
  rw[World.size_alloc] at this
  rw[hW2]
  exact this
 have HA2:Hid (CAt W2 w.heap.size h v):=A2
 have HZ2:Hid (CAt W2 (w.heap.size+1) Hd.none (.slice none 0 0)):=Z2
 have HG2:Hid (w.grownBy W2 none):=G2
 have hs2:w.heap.size+2≤W2.heap.size:=by have:=block_lt Z2;omega
 have HB:Hid (ps.length*40≤140737488355328):=hb
 unfold ccs Hd.none at hW2
 clear G2 A2 Z2 hb
 rcases hp with ⟨rfl,rfl⟩ | ⟨ad,cap,rfl,hc,hcell⟩
 ·unfold cv
  go_enter Tryz.func140,Tryz.ntmps140
  go_upto_region 1 with fail
  rw[←hW2]
  clear hW2
  obtain⟨c0,c1,c2,c3,c4,c5,c6,c7,c8⟩:=HA2.out.cells
  have cf:=fun i=>HA2.out.free i
  obtain⟨z0,z1,z2,z3,z4,z5,z6,z7,z8⟩:=HZ2.out.cells
  have zf:=fun i=>HZ2.out.free i
  simp only[Hd.none] at z0 z1 z2 z3 z4 z5 z6 z7 z8
  go_wp2_with fail
  refine bodyPost_ret (v:=cv h (.slice none 0 0)) (by simp[results,Tryz.results140,go_sem,z0,z1,z2,z3,z4,z5,z6,z7,z8,cv]) rfl ⟨.slice none 0 0,rfl,POwn.nil _ _,?_⟩
  exact grown_own (grown_own HG2.out (grown_set _ _ 8 _) (fun x e=>by cases e;exact Nat.le_refl _)) (row_st9 _ (w.heap.size+1) _ _ _ _ _ _ _ _ _) (fun x e=>by cases e;omega)
 ·have HS:Hid (∀ j u,(pcells ps)[j]?=some u→W2.cell? (ad.add j)=some u):=fun j u hu=>HG2.out.cell (hcell j u hu) (by simp)
  clear hcell hc
  unfold cv
  go_enter Tryz.func140,Tryz.ntmps140
  go_upto_region 1 with fail
  rw[←hW2]
  clear hW2
  obtain⟨c0,c1,c2,c3,c4,c5,c6,c7,c8⟩:=HA2.out.cells
  go_upto_region 3 with (at_builtin;refine wpList_append_own_at _ rfl (.tmp 4) (.tmp 6) 52 rfl W2.heap.size 38 i0 _ 8 40 Tryz.underlying52 hi hz0 hz1 hz2 rfl (by decide) _ 0 [] rfl (POwn.nil W2 _) ad ps.length cap (pcells ps) rfl (pcells_len ps) HS.out (pcells_one ps) (by have:=HB.out;unfold maxLen;omega) (by rw[Nat.zero_add];exact HB.out) (Nat.le_refl _) ?_;intro v5 w5 o5 g5 _ _;rw[Nat.zero_add,List.nil_append] at o5;have O5:POwn w5 W2.heap.size v5 ps:=o5;obtain⟨a5,k5,rfl⟩:=O5.at.form;have HO5:Hid (POwn w5 W2.heap.size (.slice a5 ps.length k5) ps):=O5;have A5:=HA2.out.keep g5;have Z5:=HZ2.out.keep g5;have af:=fun i=>A5.free i;have a8:=A5.cells.2.2.2.2.2.2.2.2;have HA5:Hid (CAt w5 w.heap.size h (.slice (some ad) ps.length cap)):=A5;have HZ5:Hid (CAt w5 (w.heap.size+1) Hd.none (.slice none 0 0)):=Z5;have HG5:Hid (w.grownBy w5 none):=grown_trans HG2.out g5;clear O5 A5 Z5 o5 c0 c1 c2 c3 c4 c5 c6 c7 c8)
  have A6:CAt (w5.setCell ⟨w.heap.size,8,none⟩ (.slice a5 ps.length k5)) w.heap.size h (.slice a5 ps.length k5):=block_set HA5.out 8 _
  have Z6:CAt (w5.setCell ⟨w.heap.size,8,none⟩ (.slice a5 ps.length k5)) (w.heap.size+1) Hd.none (.slice none 0 0):=HZ5.out.keepR (grown_set _ _ _ _) (by simp)
  have HO6:Hid (POwn (w5.setCell ⟨w.heap.size,8,none⟩ (.slice a5 ps.length k5)) W2.heap.size (.slice a5 ps.length k5) ps):=HO5.out.keep (grown_set _ _ _ _) (fun x e=>by cases e;omega)
  have HG6:Hid (w.grownBy (w5.setCell ⟨w.heap.size,8,none⟩ (.slice a5 ps.length k5)) none):=grown_own HG5.out (grown_set _ _ _ _) (fun x e=>by cases e;exact Nat.le_refl _)
  clear HA5 HZ5 HO5 HG5 af a8
  obtain⟨W6,hW6⟩:∃ W6,W6=w5.setCell ⟨w.heap.size,8,none⟩ (.slice a5 ps.length k5):=⟨_,rfl⟩
  rw[←hW6] at A6 Z6 HO6 HG6 ⊢
  clear hW6
  obtain⟨c0,c1,c2,c3,c4,c5,c6,c7,c8⟩:=A6.cells
  obtain⟨z0,z1,z2,z3,z4,z5,z6,z7,z8⟩:=Z6.cells
  have zf:=fun i=>Z6.free i
  simp only[Hd.none] at z0 z1 z2 z3 z4 z5 z6 z7 z8
  have HF:Hid (POwn (((((((((W6.setCell ⟨w.heap.size+1,0,none⟩ (.string h.nm)).setCell ⟨w.heap.size+1,1,none⟩ (.int .u8 h.su)).setCell ⟨w.heap.size+1,2,none⟩ (.int .u8 h.kd)).setCell ⟨w.heap.size+1,3,none⟩ (.int .i64 h.co)).setCell ⟨w.heap.size+1,4,none⟩ (.int .i64 h.po)).setCell ⟨w.heap.size+1,5,none⟩ (.int .i64 h.he)).setCell ⟨w.heap.size+1,6,none⟩ (.int .u16 h.tr)).setCell ⟨w.heap.size+1,7,none⟩ (.bool h.tk)).setCell ⟨w.heap.size+1,8,none⟩ (.slice a5 ps.length k5)) w.heap.size (.slice a5 ps.length k5) ps):=(HO6.out.keep (row_st9 _ (w.heap.size+1) _ _ _ _ _ _ _ _ _) (fun x e=>by cases e;omega)).big (by omega)
  clear A6 Z6 HO6
  go_wp2
  refine bodyPost_ret (v:=cv h (.slice a5 ps.length k5)) (by simp[results,Tryz.results140,go_sem,z0,z1,z2,z3,z4,z5,z6,z7,z8,cv]) rfl ⟨.slice a5 ps.length k5,rfl,HF.out,?_⟩
  exact grown_own HG6.out (row_st9 _ (w.heap.size+1) _ _ _ _ _ _ _ _ _) (fun x e=>by cases e;omega)

theorem ord_ahd {c d:Hd} (h:Ahd c d):decide (ord c d<0)=true:=decide_eq_true ((ord_lt c d).2 h)
theorem ord_not {c d:Hd} (h:¬Ahd c d):decide (ord c d<0)=false:=decide_eq_false (fun k=>h ((ord_lt c d).1 k))
theorem rahead_any (c d:Hd) (u v:Value) (w:World):Calls Tryz.prog 139 #[cv c u,cv d v] w fun e w'=>e=.returned (.bool (decide (ord c d<0)))∧w.grownBy w' none:=by
 obtain⟨W2,hW2⟩:∃ W2,W2=(w.alloc (.cells (ccs c u) 54)).alloc (.cells (ccs d v) 54):=⟨_,rfl⟩
 have HG2:Hid (w.grownBy W2 none):=by rw[hW2];exact grown_push (World.grownBy_alloc _ _ none) _
 have A2:CAt W2 w.heap.size c u:=by rw[hW2];exact CAt.keep (alloc_at w _ _) (World.grownBy_alloc _ _ none)
 have Z2:CAt W2 (w.heap.size+1) d v:=by
  have:=alloc_at (w.alloc (.cells (ccs c u) 54)) (ccs d v) 54
  rw[World.size_alloc] at this
  rw[hW2]
  exact this
 obtain⟨c0,c1,_⟩:=A2.cells
 obtain⟨d0,d1,_⟩:=Z2.cells
 clear A2 Z2
 unfold ccs at hW2
 unfold cv
 by_cases h1:c.su<d.su
 ·rw[ord_ahd (Or.inl h1)]
  go_enter Tryz.func139,Tryz.ntmps139
  go_upto_region 1 with fail
  rw[←hW2]
  clear hW2
  go_wp2
  go_ret
  exact⟨rfl,HG2.out⟩
 ·by_cases h2:c.su=d.su
  ·have q2:(c.su == d.su)=true:=by simp[h2]
   have h9:=bLt_eq c.nm d.nm
   unfold bLt at h9
   by_cases h3:c.nm.data.toList<d.nm.data.toList
   ·rw[ord_ahd (Or.inr ⟨h2,h3⟩)]
    have q3:Op.bytesLess c.nm.toList d.nm.toList=true:=by rw[h9];exact decide_eq_true h3
    clear h9 h3 h2
    go_enter Tryz.func139,Tryz.ntmps139
    go_upto_region 1 with fail
    rw[←hW2]
    clear hW2
    go_wp2
    go_ret
    exact⟨rfl,HG2.out⟩
   ·rw[ord_not (by rintro (h | h);exact h1 h;exact h3 h.2)]
    have q3:Op.bytesLess c.nm.toList d.nm.toList=false:=by rw[h9];exact decide_eq_false h3
    clear h9 h3 h2
    go_enter Tryz.func139,Tryz.ntmps139
    go_upto_region 1 with fail
    rw[←hW2]
    clear hW2
    go_wp2
    go_ret
    exact⟨rfl,HG2.out⟩
  ·rw[ord_not (by rintro (h | h);exact h1 h;exact h2 h.1)]
   have q2:(c.su == d.su)=false:=by simpa using h2
   clear h2
   go_enter Tryz.func139,Tryz.ntmps139
   go_upto_region 1 with fail
   rw[←hW2]
   clear hW2
   go_wp2
   go_ret
   exact⟨rfl,HG2.out⟩
end Go.Proofs.YthfjgpjcepmnmaaGreat
