/-
  
-/
import Derived.Test.YtjmepebbcnhalaaGreatW0
import Derived.Test.YtjmepebbcnhalaaGreatW39
import Derived.Test.YtjmepebbcnhalaaGreatW14
import Derived.Deep.RegionHeld3
import Derived.Deep.MidRow
import Derived.Maps.RangeWalk
namespace Go.Proofs.YtjmepebbcnhalaaGreat
set_option maxRecDepth 100000
set_option maxHeartbeats 8000000
open Go.RowKit

def okB (n k:Nat):Prop:=n+2≤k
theorem C9.range {w:World} {g o:Nat} {h:Hd} {v:Value} (c:C9 w g o h v):w.rangeAt g o (cvs h v):=fun j u hu=>by
 have hj:j<9:=(List.getElem?_eq_some_iff.1 hu).1
 rcases (by omega:j=0∨j=1∨j=2∨j=3∨j=4∨j=5∨j=6∨j=7∨j=8) with rfl | rfl | rfl | rfl | rfl | rfl | rfl | rfl | rfl <;> (cases hu;first | exact c.c0 | exact c.c1 | exact c.c2 | exact c.c3 | exact c.c4 | exact c.c5 | exact c.c6 | exact c.c7 | exact c.c8)
theorem M4.range {w:World} {g o:Nat} {m:Mk} (c:M4 w g o m):w.rangeAt g o (mvs m):=fun j u hu=>by
 have hj:j<4:=(List.getElem?_eq_some_iff.1 hu).1
 rcases (by omega:j=0∨j=1∨j=2∨j=3) with rfl | rfl | rfl | rfl <;> (cases hu;first | exact c.c0 | exact c.c1 | exact c.c2 | exact c.c3)
theorem Ap {es fs:List Ent} (h:es.map hp=fs.map hp) {e:Ent} (he:e∈fs):∃ d∈es,d.h=e.h∧d.ps=e.ps:=by
 have:hp e∈es.map hp:=by rw[h];exact List.mem_map_of_mem he
 obtain⟨d,hd,e1⟩:=List.mem_map.1 this
 exact⟨d,hd,congrArg Prod.fst e1,congrArg Prod.snd e1⟩
def Nd (es:List Ent):Prop:=(bs es).Nodup∧∀ e∈es,(e.h.with e.ps).wf
def kO (n:Nat) (w:World) (e:Ending) (w':World):Prop:=∃ v es fs p,e=.returned (.tuple #[.pointer (some ⟨n,0,none⟩),.pointer (some ⟨n+1,0,none⟩),.bool true])∧Pr (okB n) w' n (n+1) v es fs p∧Nd es∧w.grownBy w' none
def sA (n:Nat) (W wr:World):Prop:=W.grownBy wr none∧n+2≤wr.heap.size∧∃ v es fs p,Pr (okB n) wr n (n+1) v es fs p∧Nd es
theorem sA.card {n:Nat} {W w0 w1 w2 w3 w4:World} {v:Value} {es fs:List Ent} {p:Pl} {h:Hd} {u:Value} {ps:List Pt} {t:Int} {e:Ending} (g0:W.grownBy w0 none) (hW:W.heap.size≤n) (hs:n+2≤w0.heap.size) (P:Pr (okB n) w0 n (n+1) v es fs p) (hN:Nd es) (hT:(h.with ps).wf) (ht:t=caE p es (h.with ps)) (g1:w0.grownBy w1 none) (B2:dV (okB n) w2 n (if t=0 then ins es ⟨h,u,ps⟩ else es) p) (g2:w1.grownBy w2 (some n)) (g3:w2.grownBy w3 none) (Q:un (okB n) (n+1) v p fs h ps w3 t e w4):e=.returned (.int .i64 t)∧sA n W w4:=by
 obtain⟨u',v',rfl,Q1,Q2,Q3,Q4,Q5⟩:=Q
 refine⟨rfl,?_,?_,?_⟩
 ·exact az (aa (az (aa g0 g1) g2 (fun x e=>by cases e;exact hW)) g3) Q5 (fun x e=>by cases e;omega)
 ·have:=g1.size;have:=g2.size;have:=g3.size;have:=Q5.size;omega
 ·obtain⟨fs2,P2⟩:=P.card (fun h=>by unfold okB at h;omega) (by omega) (fun k hk=>by unfold okB;omega) g1 B2 g2 g3 Q1 Q2 Q3 Q4 Q5
  refine⟨v',_,fs2,p,P2,?_⟩
  by_cases h0:t=0
  ·rw[if_pos h0]
   refine⟨?_,fun d hd=>?_⟩
   ·rw[(xU _ _).nodup_iff,List.nodup_cons]
    exact⟨(yC (ht.symm.trans h0)).2.2,hN.1⟩
   ·rcases (lz es ⟨h,u,ps⟩ d).1 hd with q | q
    ·rw[q];exact hT
    ·exact hN.2 d q
  ·rw[if_neg h0];exact hN
theorem wi (vc vm:Value) (op:Bool) (cs:List Ent) (ms:List Mk) (w:World) (F:FiA w vc vm cs ms):Calls Tryz.prog 7 #[.agg #[vc,vm,.bool op]] w (kO (w.heap.size+1) w):=by
 obtain⟨ca,ck,rfl,hC⟩:=F.c
 obtain⟨ma,mk,rfl,hM⟩:=F.m
 obtain⟨W1,hW1⟩:∃ W1,W1=w.alloc (.cells #[.slice ca cs.length ck,.slice ma ms.length mk,.bool op] 25):=⟨_,rfl⟩
 have g01:w.grownBy W1 none:=by rw[hW1];exact World.grownBy_alloc _ _ none
 have HG1:Hid (w.grownBy W1 none):=g01
 have HBx:Hid (W1.heap[w.heap.size]?=some (.cells #[.slice ca cs.length ck,.slice ma ms.length mk,.bool op] 25 (0,0))):=by rw[hW1];exact ak w _ _
 have HSz:Hid (W1.heap.size=w.heap.size+1):=by show _=_;rw[hW1,World.size_alloc]
 have HF:Hid (FiA W1 (.slice ca cs.length ck) (.slice ma ms.length mk) cs ms):=F.keep g01
 obtain⟨n,hn⟩:∃ n,n=w.heap.size+1:=⟨_,rfl⟩
 rw[←hn]
 obtain⟨f0,hf0⟩:∃ f0,f0=w.heap.size:=⟨_,rfl⟩
 have HNW:Hid (W1.heap.size=n):=by show _=_;rw[HSz.out,hn]
 have HBN:=bnew (okB n) W1
 rw[HNW.out] at HBN
 have hsc:aZ cs.length:=F.cz
 have hsm:aZ ms.length:=F.mz
 clear F hC hM g01 hn HSz
 go_enter Tryz.func7,Tryz.ntmps7
 go_upto_region 1 with fail
 rw[←hW1,←hf0]
 rw[←hf0] at HBx
 clear hW1 hf0
 go_wp2_with fail
 refine HBN.mono ?_
 rintro e w2 ⟨rfl,B2,g2,z2⟩
 have HRN:=Ad w2
 rw[show w2.heap.size=n+1 from z2] at HRN
 have HG2:Hid (W1.grownBy w2 none):=g2
 have HB2:Hid (dV (okB n) w2 n [] gG):=B2
 clear HBN B2 g2 z2
 go_wp2_with fail
 refine HRN.mono ?_
 rintro e w3 ⟨rfl,R3,g3,z3⟩
 have HI3:Hid (sA n W1 w3):=⟨aa HG2.out g3,by rw[z3];omega,.slice none 0 0,[],[],gG,⟨HB2.out.keep g3,R3,Or.inl ⟨rfl,rfl⟩,fun k hk=>by simp[Value.ownBlock] at hk,fun e he=>by simp at he,rfl,wK,rfl⟩,List.nodup_nil,fun e he=>by simp at he⟩
 clear HRN R3 g3 z3 HB2 HG2
 go_wp2_with fail
 go_loopw [7] (fun x wr=>∃ i:Nat,i≤cs.length∧x=.int .i64 (i:Int)∧Hid (sA n W1 wr)) (fun x _=>cs.length - (intOf x).toNat)
 case atStart=>exact⟨0,Nat.zero_le _,rfl,HI3⟩
 case round =>
  obtain⟨i,hi,rfl,HI⟩:=hrel
  clear HI3
  have x0:wr.cell? ⟨f0,0,none⟩=some (.slice ca cs.length ck):=HI.out.1.cell (ae HBx.out 0) (by simp)
  rcases (show i=cs.length∨i<cs.length from by omega) with e | hlt
  ·have hlt':¬(i:Int)<(cs.length:Int):=by omega
   have hlt2:¬i<cs.length:=by omega
   clear e hi
   obtain⟨wz,hwz⟩:∃ wz,wz=wr:=⟨_,rfl⟩
   subst hwz
   go_wp2_with fail
   clear x0
   go_loopw [8] (fun x wr=>∃ i:Nat,i≤ms.length∧x=.int .i64 (i:Int)∧Hid (sA n W1 wr)) (fun x _=>ms.length - (intOf x).toNat)
   case atStart=>exact⟨0,Nat.zero_le _,rfl,HI⟩
   case round =>
    obtain⟨j,hj,rfl,HJ⟩:=hrel
    clear HI
    have x1:wr.cell? ⟨f0,1,none⟩=some (.slice ma ms.length mk):=HJ.out.1.cell (ae HBx.out 1) (by simp)
    rcases (show j=ms.length∨j<ms.length from by omega) with e | hlt3
    ·have hlt3':¬(j:Int)<(ms.length:Int):=by omega
     have hlt3n:¬j<ms.length:=by omega
     have x2:wr.cell? ⟨f0,2,none⟩=some (.bool op):=HJ.out.1.cell (ae HBx.out 2) (by simp)
     obtain⟨gj,sj,v,es,fs,p,P,hNd⟩:=HJ.out
     have HNd:Hid (Nd es):=hNd
     have HP:Hid (Pr (okB n) wr n (n+1) v es fs p):=P
     have HGj:Hid (W1.grownBy wr none∧n+2≤wr.heap.size):=⟨gj,sj⟩
     clear e hj gj sj P HJ hNd
     have fin:∀ (W:World) (v:Value) (es fs:List Ent) (p:Pl),Pr (okB n) W n (n+1) v es fs p→Nd es→W1.grownBy W none→kO n w (.returned (.tuple #[.pointer (some ⟨n,0,none⟩),.pointer (some ⟨n+1,0,none⟩),.bool true])) W:=fun W v es fs p P hN g=>⟨v,es,fs,p,rfl,P,hN,aa HG1.out g⟩
     have HFin:Hid (∀ (W:World) (v:Value) (es fs:List Ent) (p:Pl),Pr (okB n) W n (n+1) v es fs p→Nd es→W1.grownBy W none→kO n w (.returned (.tuple #[.pointer (some ⟨n,0,none⟩),.pointer (some ⟨n+1,0,none⟩),.bool true])) W):=fin
     clear fin
     cases op with
     | true =>
      have HS1:=jC n es.length p wr HP.out.book.lies.flags
      have HS2:=iV (n+1) v p wr HP.out.rj
      obtain⟨sh,hsh⟩:∃ sh,sh=p.shut:=⟨_,rfl⟩
      rw[←hsh] at HS1 HS2
      clear hsh
      go_wp2_with fail
      refine HS1.mono ?_
      rintro e w4 ⟨rfl,hw⟩
      obtain rfl:wr=w4:=hw.symm
      go_wp2_with fail
      refine HS2.mono ?_
      rintro e w4 ⟨rfl,hw⟩
      obtain rfl:wr=w4:=hw.symm
      clear HS1 HS2
      have HE:=HFin.out wr v es fs p HP.out HNd.out HGj.out.1
      have HHE:Hid (kO n w (.returned (.tuple #[.pointer (some ⟨n,0,none⟩),.pointer (some ⟨n+1,0,none⟩),.bool true])) wr):=HE
      clear HE HFin HP
      cases sh with
      | true =>
       go_wp2
       go_ret3
       exact HHE.out
      | false =>
       go_wp2
       go_ret3
       exact HHE.out
     | false =>
      have HSe:=D1 (okB n) n es p wr HP.out.book (fun h=>by unfold okB at h;omega)
      go_wp2_with fail
      refine HSe.mono ?_
      rintro e w4 ⟨rfl,B4,g4⟩
      have RJ4:=HP.out.rj.keepR g4 (fun e=>by injection e with e;omega)
      have RL4:=HP.out.rl.keepR g4 (fun k hk e=>by cases e;have:=(HP.out.own _ hk).1;unfold okB at this;omega)
      have GD4:=HP.out.good.keepR g4 (fun k hk e=>by cases e;unfold okB at hk;omega)
      have HRs:=wF (okB n) (n+1) v p fs w4 RJ4 RL4 (by rw[←kF HP.out.same];exact HP.out.book.lies.len) GD4 (fun e he=>by obtain⟨d,hd,_,h2⟩:=Ap HP.out.same he;rw[←h2];exact HP.out.book.parts d hd)
      have hse:=B8 HP.out.same p
      rw[←hse.1,←hse.2] at HRs
      have HB4:Hid (dV (okB n) w4 n es (dG p es)):=B4
      have HG4:Hid (wr.grownBy w4 (some n)):=g4
      obtain⟨se,hse2⟩:∃ se,se=fX p es:=⟨_,rfl⟩
      rw[←hse2] at HRs ⊢
      clear hse2 hse RJ4 RL4 GD4 B4 g4 HSe
      go_wp2_with fail
      refine HRs.mono ?_
      rintro e w5 ⟨rfl,R5,g5⟩
      have HP5:Hid (Pr (okB n) w5 n (n+1) v es fs (dG p es)):=HP.out.step (fun h=>by unfold okB at h;omega) (fun h=>by unfold okB at h;omega) (by omega) HB4.out HG4.out R5 g5 (xq HP.out.mkd es) (rL HP.out.zero es)
      have HG5:Hid (W1.grownBy w5 none):=az (az HGj.out.1 HG4.out (fun x e=>by cases e;rw[HNW.out];exact Nat.le_refl _)) g5 (fun x e=>by cases e;rw[HNW.out];omega)
      obtain⟨p2,hp2⟩:∃ p2,p2=dG p es:=⟨_,rfl⟩
      rw[←hp2] at HP5
      have HS1:=jC n es.length p2 w5 HP5.out.book.lies.flags
      have HS2:=iV (n+1) v p2 w5 HP5.out.rj
      obtain⟨sh,hsh⟩:∃ sh,sh=p2.shut:=⟨_,rfl⟩
      rw[←hsh] at HS1 HS2
      clear hsh HRs R5 g5 HB4 HG4 hp2
      go_wp2_with fail
      refine HS1.mono ?_
      rintro e w6 ⟨rfl,hw⟩
      obtain rfl:w5=w6:=hw.symm
      go_wp2_with fail
      refine HS2.mono ?_
      rintro e w6 ⟨rfl,hw⟩
      obtain rfl:w5=w6:=hw.symm
      clear HS1 HS2
      have HE:=HFin.out w5 v es fs p2 HP5.out HNd.out HG5.out
      have HHE:Hid (kO n w (.returned (.tuple #[.pointer (some ⟨n,0,none⟩),.pointer (some ⟨n+1,0,none⟩),.bool true])) w5):=HE
      clear HE HFin HP HP5
      cases sh with
      | true =>
       go_wp2
       go_ret3
       exact HHE.out
      | false =>
       go_wp2
       go_ret3
       exact HHE.out
    ·have hlt3':(j:Int)<(ms.length:Int):=by omega
     have hj0:(0:Int)≤(j:Int):=by omega
     obtain⟨mm,hmm⟩:∃ mm,ms[j]?=some mm:=⟨_,List.getElem?_eq_getElem hlt3⟩
     obtain⟨ma',mk',hm1,hm2⟩:=HF.out.m
     obtain⟨gm,om,ea,hMA⟩:=hm2 (by omega)
     injection hm1 with hm1a _ hm1b
     rw[←hm1a] at ea
     subst ea
     have HMM:Hid (W1.rangeAt gm (om+j*4) (mvs mm)):=(hMA j mm hmm).range
     have HMr:Hid (0≤mm.mi∧mm.mi≤255):=HF.out.mr mm (List.mem_of_getElem? hmm)
     obtain⟨gj,sj,v,es,fs,p,P,hNd⟩:=HJ.out
     have HNd:Hid (Nd es):=hNd
     have HP:Hid (Pr (okB n) wr n (n+1) v es fs p):=P
     have HGj:Hid (W1.grownBy wr none∧n+2≤wr.heap.size):=⟨gj,sj⟩
     have H0:W1.grownBy wr.drew none:=aa gj (ag _)
     have X1:Hid (W1.cell? ⟨f0,1,none⟩=some (.slice (some ⟨gm,om,none⟩) ms.length mk)):=ae HBx.out 1
     obtain⟨mi,mnm,mpo,mhe⟩:=mm
     clear hmm hm2 hMA hm1a hm1b HJ gj sj P hNd ma' mk'
     go_upto_region 10 with fail
     refine wp_region_held_drew (S:=fun w'=>W1.grownBy w' none) (by kernel_rfl) H0 (fun hHeld=>?_)
     refine QZ 0 rfl ?_
     go_frame
     refine QZ 1 rfl ?_
     go_frame
     refine QT 2 rfl (by intro w0 hSw;have d1:=hSw.cell X1.out (by simp);go_simp;try with_reducible rfl) ?_
     go_frame
     refine QZ 3 rfl ?_
     go_frame
     refine QZ 4 rfl ?_
     go_frame
     refine wpAnyH_take (i:=5) (v:=.agg #[.int .u8 mi,.string mnm,.int .i64 mpo,.int .i64 mhe]) rfl (by kernel_rfl) (by kernel_rfl) (by kernel_rfl) (fun _ _ _ h=>h) (yieldsIf_load_mid (by rfl) 115 (.tmp 48) rfl gm (om+j*4) rfl (mvs ⟨mi,mnm,mpo,mhe⟩) _ (fun w0 hSw=>fun k u hu=>hSw.cell (HMM.out k u hu) (by simp)) Tryz.underlying115 rfl (by kernel_rfl)) (by assumption) ?_
     simp only[QA,QB,QC]
     go_frame
     refine QZ 7 rfl ?_
     go_frame
     refine QZ 8 rfl ?_
     go_frame
     refine QT 9 rfl (by intro w0 hSw;have d1:=hSw.cell X1.out (by simp);go_simp;try with_reducible rfl) ?_
     go_frame
     refine QZ 10 rfl ?_
     go_frame
     refine QZ 11 rfl ?_
     go_frame
     refine wpAnyH_take (i:=12) (v:=.agg #[.int .u8 mi,.string mnm,.int .i64 mpo,.int .i64 mhe]) rfl (by kernel_rfl) (by kernel_rfl) (by kernel_rfl) (fun _ _ _ h=>h) (yieldsIf_load_mid (by rfl) 115 (.tmp 55) rfl gm (om+j*4) rfl (mvs ⟨mi,mnm,mpo,mhe⟩) _ (fun w0 hSw=>fun k u hu=>hSw.cell (HMM.out k u hu) (by simp)) Tryz.underlying115 rfl (by kernel_rfl)) (by assumption) ?_
     simp only[QA,QB,QC]
     go_frame
     have HBm:=CX (okB n) n es p ⟨mi,mnm,mpo,mhe⟩ wr.drew (HP.out.book.keep (ag _)) (fun h=>by unfold okB at h;omega)
     unfold mv at HBm
     obtain⟨me,hme⟩:∃ me,me=maE p ⟨mi,mnm,mpo,mhe⟩:=⟨_,rfl⟩
     rw[←hme] at HBm
     have HmE:Hid (me=maE p ⟨mi,mnm,mpo,mhe⟩):=hme
     clear hme
     refine QR 6 rfl (fun K hK=>?_)
     go_simp
     go_at_call 53
     refine(HBm).mono ?_
     rintro e w4 ⟨rfl,B4,g4⟩
     have HB4:Hid (dV (okB n) w4 n es (maP p ⟨mi,mnm,mpo,mhe⟩)):=B4
     have HG4:Hid (wr.grownBy w4 (some n)):=aV (ag _) g4
     have HK4:Hid (W1.grownBy w4 none):=az H0 g4 (fun x e=>by cases e;rw[HNW.out];exact Nat.le_refl _)
     clear B4 g4
     refine hK.out _ _ (HK4.out) (fun hHeld2=>?_)
     clear hK K
     (try go_frame)
     have HRm:=xe (n+1) v p ⟨mi,mnm,mpo,mhe⟩ w4 (HP.out.rj.keepR HG4.out (fun e=>by injection e with e;omega)) HMr.out HP.out.mkd
     unfold mv at HRm
     rw[←HmE.out] at HRm
     refine QR 13 rfl (fun K hK=>?_)
     go_simp
     go_at_call 54
     refine(HRm).mono ?_
     rintro e w5 ⟨rfl,R5,g5⟩
     have HI5:Hid (sA n W1 w5):=⟨az HK4.out g5 (fun x e=>by cases e;rw[HNW.out];omega),by have h1:=HGj.out.2;have h2:=HG4.out.size;have h3:=g5.size;omega,v,es,fs,_,HP.out.step (fun h=>by unfold okB at h;omega) (fun h=>by unfold okB at h;omega) (by omega) HB4.out HG4.out R5 g5 (Bl HP.out.mkd _) (xi HP.out.zero _),HNd.out⟩
     clear R5 g5
     refine hK.out _ _ (HI5.out.1) (fun hHeld2=>?_)
     clear hK K
     (try go_frame)
     refine QZ 14 rfl ?_
     go_frame
     refine QD ?_
     have hne:(me != me)=false:=by simp
     clear HBm HRm
     go_wp2_with fail
     go_roundw
     case rel=>exact⟨j+1,hlt3,by first | rfl | (rw[hsm.wrap hlt3];rfl),HI5⟩
     case measure=>first | exact au hlt3 | (rw[hsm.wrap hlt3];exact au hlt3)
  ·have hlt':(i:Int)<(cs.length:Int):=by omega
   have hi0:(0:Int)≤(i:Int):=by omega
   obtain⟨en,hen⟩:∃ en,cs[i]?=some en:=⟨_,List.getElem?_eq_getElem hlt⟩
   obtain⟨ca',ck',hc1,hc2⟩:=HF.out.c
   obtain⟨gc,oc,ea,hEA⟩:=hc2 (by omega)
   injection hc1 with hc1a _ hc1b
   rw[←hc1a] at ea
   subst ea
   have HCR:Hid (W1.rangeAt gc (oc+i*9) (cvs en.h en.v)):=(hEA i en hen).range
   have HPs:Hid (bY W1 en.v en.ps∧jE en.ps.length∧(en.h.with en.ps).wf):=HF.out.ps en (List.mem_of_getElem? hen)
   obtain⟨gj,sj,v,es,fs,p,P,hNd⟩:=HI.out
   have HNd:Hid (Nd es):=hNd
   have HP:Hid (Pr (okB n) wr n (n+1) v es fs p):=P
   have HGj:Hid (W1.grownBy wr none∧n+2≤wr.heap.size):=⟨gj,sj⟩
   have H0:W1.grownBy wr.drew none:=aa gj (ag _)
   have X0:Hid (W1.cell? ⟨f0,0,none⟩=some (.slice (some ⟨gc,oc,none⟩) cs.length ck)):=ae HBx.out 0
   obtain⟨⟨nm,su,kd,co,po,he,tr,tk⟩,ev,eps⟩:=en
   obtain⟨eva,evc,hev⟩:=HPs.out.1.form
   simp only at hev
   subst hev
   have HCp:=fun (W:World) (g:W1.grownBy W none)=>qu ⟨nm,su,kd,co,po,he,tr,tk⟩ (.slice eva eps.length evc) eps W (HPs.out.1.keep g) HPs.out.2.1
   unfold cv at HCp
   simp only at HCp
   clear hen hc2 hEA hc1a hc1b HI gj sj P hNd ca' ck'
   go_upto_region 5 with fail
   refine wp_region_held_drew (S:=fun w'=>W1.grownBy w' none) (by kernel_rfl) H0 (fun hHeld=>?_)
   refine QZ 0 rfl ?_
   go_frame
   refine QZ 1 rfl ?_
   go_frame
   refine QT 2 rfl (by intro w0 hSw;have d1:=hSw.cell X0.out (by simp);go_simp;try with_reducible rfl) ?_
   go_frame
   refine QZ 3 rfl ?_
   go_frame
   refine QZ 4 rfl ?_
   go_frame
   refine wpAnyH_take (i:=5) (v:=.agg #[.string nm,.int .u8 su,.int .u8 kd,.int .i64 co,.int .i64 po,.int .i64 he,.int .u16 tr,.bool tk,.slice eva eps.length evc]) rfl (by kernel_rfl) (by kernel_rfl) (by kernel_rfl) (fun _ _ _ h=>h) (yieldsIf_load_mid (by rfl) 111 (.tmp 22) rfl gc (oc+i*9) rfl (cvs ⟨nm,su,kd,co,po,he,tr,tk⟩ (.slice eva eps.length evc)) _ (fun w0 hSw=>fun k u hu=>hSw.cell (HCR.out k u hu) (by simp)) Tryz.underlying111 rfl (by kernel_rfl)) (by assumption) ?_
   simp only[QA,QB,QC]
   go_frame
   refine QZ 8 rfl ?_
   go_frame
   refine QZ 9 rfl ?_
   go_frame
   refine QT 10 rfl (by intro w0 hSw;have d1:=hSw.cell X0.out (by simp);go_simp;try with_reducible rfl) ?_
   go_frame
   refine QZ 11 rfl ?_
   go_frame
   refine QZ 12 rfl ?_
   go_frame
   refine wpAnyH_take (i:=13) (v:=.agg #[.string nm,.int .u8 su,.int .u8 kd,.int .i64 co,.int .i64 po,.int .i64 he,.int .u16 tr,.bool tk,.slice eva eps.length evc]) rfl (by kernel_rfl) (by kernel_rfl) (by kernel_rfl) (fun _ _ _ h=>h) (yieldsIf_load_mid (by rfl) 111 (.tmp 30) rfl gc (oc+i*9) rfl (cvs ⟨nm,su,kd,co,po,he,tr,tk⟩ (.slice eva eps.length evc)) _ (fun w0 hSw=>fun k u hu=>hSw.cell (HCR.out k u hu) (by simp)) Tryz.underlying111 rfl (by kernel_rfl)) (by assumption) ?_
   simp only[QA,QB,QC]
   go_frame
   refine QR 6 rfl (fun K hK=>?_)
   go_simp
   go_at_call 51
   refine(HCp _ hHeld).mono ?_
   rintro e w4 ⟨a4,c4,rfl,o4,g4⟩
   have HO4:Hid (bA w4 wr.drew.heap.size (.slice a4 eps.length c4) eps):=o4
   have HG4:Hid (wr.grownBy w4 none):=aa (ag _) g4
   have HK4:Hid (W1.grownBy w4 none):=aa H0 g4
   clear o4 g4
   refine hK.out _ _ (HK4.out) (fun hHeld2=>?_)
   clear hK K
   (try go_frame)
   have HCa:=CB (okB n) n es p ⟨nm,su,kd,co,po,he,tr,tk⟩ (.slice a4 eps.length c4) eps w4 (HP.out.book.keep HG4.out) (fun h=>by unfold okB at h;omega) (fun k hk=>by unfold okB;have h1:=HGj.out.2;have h2:=HG4.out.size;omega) HO4.out.at HPs.out.2.1.small
   have hcaE:=Co HP.out.same p ((⟨nm,su,kd,co,po,he,tr,tk⟩:Hd).with eps)
   obtain⟨ce,hce⟩:∃ ce,ce=caE p es ((⟨nm,su,kd,co,po,he,tr,tk⟩:Hd).with eps):=⟨_,rfl⟩
   rw[←hce] at HCa hcaE
   have HceE:Hid (ce=caE p es ((⟨nm,su,kd,co,po,he,tr,tk⟩:Hd).with eps)):=hce
   have HcaE:Hid (ce=caE p fs ((⟨nm,su,kd,co,po,he,tr,tk⟩:Hd).with eps)):=hcaE
   clear hcaE
   unfold cv at HCa
   simp only at HCa
   clear hce
   refine QR 7 rfl (fun K hK=>?_)
   go_simp
   go_at_call 50
   refine(HCa).mono ?_
   rintro e w5 ⟨u5,rfl,B5,g5⟩
   have HB5:Hid (dV (okB n) w5 n (if ce=0 then ins es ⟨⟨nm,su,kd,co,po,he,tr,tk⟩,u5,eps⟩ else es) p):=B5
   have HG5:Hid (w4.grownBy w5 (some n)):=g5
   have HK5:Hid (W1.grownBy w5 none):=az HK4.out g5 (fun x e=>by cases e;rw[HNW.out];exact Nat.le_refl _)
   clear B5 g5
   refine hK.out _ _ (HK5.out) (fun hHeld2=>?_)
   clear hK K
   (try go_frame)
   refine QR 14 rfl (fun K hK=>?_)
   go_simp
   go_at_call 51
   refine(HCp _ HK5.out).mono ?_
   rintro e w6 ⟨a6,c6,rfl,o6,g6⟩
   have HO6:Hid (bA w6 w5.heap.size (.slice a6 eps.length c6) eps):=o6
   have HG6:Hid (w5.grownBy w6 none):=g6
   have HK6:Hid (W1.grownBy w6 none):=aa HK5.out g6
   clear o6 g6
   refine hK.out _ _ (HK6.out) (fun hHeld2=>?_)
   clear hK K
   (try go_frame)
   have HRc:=wv (okB n) (n+1) v p fs ⟨nm,su,kd,co,po,he,tr,tk⟩ (.slice a6 eps.length c6) eps w6 (((HP.out.rj.keep HG4.out).keepR HG5.out (fun e=>by injection e with e;omega)).keep HG6.out) (((HP.out.rl.keep HG4.out).keepR HG5.out (fun k hk e=>by cases e;have:=(HP.out.own _ hk).1;unfold okB at this;omega)).keep HG6.out) (by rw[←kF HP.out.same];exact HP.out.book.lies.len) (((HP.out.good.keep HG4.out).keepR HG5.out (fun k hk e=>by cases e;unfold okB at hk;omega)).keep HG6.out) (fun h=>by unfold okB at h;omega) HO6.out.at HPs.out.2.1.small HPs.out.2.2
   rw[←HcaE.out] at HRc
   unfold cv at HRc
   simp only at HRc
   refine QR 15 rfl (fun K hK=>?_)
   go_simp
   go_at_call 52
   refine HRc.mono ?_
   intro e w7 Q7
   obtain⟨he7,hI7⟩:=sA.card HGj.out.1 (by rw[HNW.out];exact Nat.le_refl _) HGj.out.2 HP.out HNd.out HPs.out.2.2 HceE.out HG4.out HB5.out HG5.out HG6.out Q7
   subst he7
   have HI7:Hid (sA n W1 w7):=hI7
   clear hI7 Q7
   refine hK.out _ _ (HI7.out.1) (fun hHeld2=>?_)
   clear hK K
   (try go_frame)
   refine QZ 16 rfl ?_
   go_frame
   refine QD ?_
   have hne:(ce != ce)=false:=by simp
   clear HCp HCa HRc
   go_wp2_with fail
   go_roundw
   case rel=>exact⟨i+1,hlt,by first | rfl | (rw[hsc.wrap hlt];rfl),HI7⟩
   case measure=>first | exact au hlt | (rw[hsc.wrap hlt];exact au hlt)
end Go.Proofs.YtjmepebbcnhalaaGreat
