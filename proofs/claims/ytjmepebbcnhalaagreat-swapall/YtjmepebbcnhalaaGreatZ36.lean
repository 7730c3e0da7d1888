import Derived.Test.YtjmepebbcnhalaaGreatZ35
namespace Go.Proofs.YtjmepebbcnhalaaGreat
open Tryz
set_option maxRecDepth 100000
set_option maxHeartbeats 4000000
open Go.RowKit Go.Shelf
variable {p:Pl} {gs:List Ent} {ts:List Th} {R:List Rw} {w w':World} {g base:Nat} {vt vf bv vl v:Value} {n:Int}
def vqR (p:Pl) (gs:List Ent) (ts:List Th) (k:Int):Int:=vqE (vkR p gs ts) (decide (0≤k∧k≤6)) 2
def vBR (p:Pl) (gs:List Ent) (ts:List Th) (k:Int):List Fe:=vBh (aX p ts.length) (gs.length:Int) (atC p gs) ts (pfR p gs) (mfR p) meR k
theorem I0 {k:Int} (h:¬vqR p gs ts k=0):vBR p gs ts k=[]:=if_neg h
theorem Gm {k:Int} (h:¬vkR p gs ts=0):vqR p gs ts k=vkR p gs ts:=GK h
theorem yK {k:Int} (h:vkR p gs ts=0) (hk:¬(0≤k∧k≤6)):vqR p gs ts k=2:=by unfold vqR;rw[h,Qx hk];rfl
theorem wH {k:Int} (h:vkR p gs ts=0) (hk:0≤k∧k≤6):vqR p gs ts k=0:=by unfold vqR;rw[h,Qy hk];rfl
theorem Bw {k:Int} (h:vkR p gs ts=0) (hk:0≤k∧k≤6) (hT:bI (gs.length:Int) (atC p gs) ts (dR (pfR p gs) ts)=some R):vBR p gs ts k=bhL R (mfR p) ts (dR (pfR p gs) ts) k:=(if_pos (wH h hk)).trans (by rw[hT])
theorem Bu (R:List Rw) (F:List Fe) (j:Nat):clF R F (j+1)=ei (clF R F j) R (jZ R (clF R F j) ((j:Int)+1)).1:=by
 rw[clF,xM]
theorem Be (R:List Rw) (mf:Fe→Th→Fe) (ts:List Th) (F:List Fe):bhL R mf ts F 6=kf mf ts (clF R F 5):=if_pos rfl
theorem Hy (R:List Rw) (mf:Fe→Th→Fe) (ts:List Th) (F:List Fe) (j:Nat) (h:¬(j:Int)=6):bhL R mf ts F (j:Int)=clF R F j:=by
 unfold bhL;rw[if_neg h,Qc3]
theorem te {me:Th→Int}:∀ {ts:List Th},mkE me ts=0→∀ t∈ts,t.place=4→me t=0
 | [],_,t,ht,_=>by cases ht
 | a :: l,h,t,ht,h4=>by
  by_cases q:a.place=4∧me a≠0
  ·rw[CQ q.1 q.2] at h;exact absurd h q.2
  ·rw[sA q] at h
   rcases Qbo.1 ht with e | e
   ·subst e;exact Decidable.byContradiction fun z=>q ⟨h4,z⟩
   ·exact te h t e h4
theorem Hg (h:vkR p gs ts=0):p.shut=true∧ts.length≤2048∧(∃ R,Tab (gs.length:Int) (atC p gs) ts (dR (pfR p gs) ts) R)∧∀ t∈ts,t.place=4→ji t.m0 t.m1 t.m2 t.m3=true:=by
 unfold vkR at h;obtain⟨h1,h2,h3⟩:=Gb h
 have h4:ts.length≤2048∧p.shut=true:=by
  unfold aX at h1;split at h1
  ·cases h1
  ·split at h1
   ·exact⟨by omega,by assumption⟩
   ·cases h1
 rw[Qba h4.1] at h2;refine⟨h4.2,h4.1,h2,fun t ht q=>?_⟩;have h5:=te h3 t ht q;unfold meR at h5;split at h5
 ·assumption
 ·cases h5
def BhP (w:World) (p:Pl) (gs:List Ent) (ts:List Th) (k:Int) (e:Ending) (w':World):Prop:=∃ v,e=.returned (.tuple #[v,.int .i64 (vqR p gs ts k)])∧w.grownBy w' none∧cJ w' w.heap.size v (vBR p gs ts k)
theorem BhP.no {k q:Int} (h:vqR p gs ts k=q) (hq:q≠0) (g:w.grownBy w' none):BhP w p gs ts k (.returned (.tuple #[.slice none 0 0,.int .i64 q])) w':=⟨_,by rw[h],g,by rw[I0 (by rw[h];exact hq)];exact aB.Own.nil _ _ _ _⟩
theorem qe (ok:Nat→Prop) (r:Nat) (vr:Value) (p:Pl) (gs:List Ent) (v:Value) (ts:List Th) (k:Int) (w:World) (B:RD ok w r vr p gs) (A:thR.At w v ts) (hc:RgC (atC p gs)):Calls prog 35 #[.pointer (some ⟨r,0,none⟩),v,.int .i64 k] w (BhP w p gs ts k):=by
 have C1:=sJ ok r vr p gs v ts w B A hc;unfold StP at C1;have HB:QH (RD ok w r vr p gs∧thR.At w v ts∧RgC (atC p gs)):=⟨B,A,hc⟩
 obtain⟨x,hx⟩:=Qe (vkR p gs ts);have HX:QH (x=vkR p gs ts):=hx;rw[←hx] at C1;clear A B hc hx;go_enter func35,ntmps35;go_wp2_with fail;refine C1.mono ?_;rintro e1 w1 ⟨v1,rfl,g1,h0,h1⟩;have HG1:QH (w.grownBy w1 none):=g1;by_cases hx:x=0
 ·have HO:QH (cJ w1 w.heap.size v1 (dR (pfR p gs) ts)):=h1 hx;have HV:QH (vkR p gs ts=0):=HX.o.symm.trans hx;subst hx;clear C1 g1 h0 h1;obtain⟨hs,hl,⟨R,hT⟩,ho⟩:=Hg HV.o;have HT:QH (Tab (gs.length:Int) (atC p gs) ts (dR (pfR p gs) ts) R∧p.shut=true∧ts.length≤2048∧∀ t∈ts,t.place=4→ji t.m0 t.m1 t.m2 t.m3=true):=⟨hT,hs,hl,ho⟩
  have HAll:QH (∀ X vf (j:Nat),w.grownBy X none→j<5→feR.At X vf (clF R (dR (pfR p gs) ts) j)→Calls prog 16 #[.pointer (some ⟨r,0,none⟩),v,vf,.int .i64 ((j:Int)+1)] X (kw X (aX p ts.length) (gs.length:Int) (atC p gs) ts (clF R (dR (pfR p gs) ts) j) ((j:Int)+1))):=fun X vf j g hj F=>BW ok r vr p gs v vf ts _ _ X (HB.o.1.keep g) (HB.o.2.1.keep g) F (yC HT.o.1 HB.o.2.2 (sC HB.o.2.2 ts) j).tr;have HMk:QH (∀ X vf,w.grownBy X none→feR.At X vf (clF R (dR (pfR p gs) ts) 5)→Calls prog 93 #[.pointer (some ⟨r,0,none⟩),v,vf] X fun e w'=>∃ v',e=.returned v'∧cJ w' X.heap.size v' (kf (mfR p) ts (clF R (dR (pfR p gs) ts) 5))∧X.grownBy w' none):=fun X vf g F=>qn ok r vr p gs v vf ts _ X (HB.o.1.keep g) (HB.o.2.1.keep g) F (by rw[yH,DF]) HT.o.2.2.1 (yC HT.o.1 HB.o.2.2 (sC HB.o.2.2 ts) 5) HT.o.2.2.2;clear hs hl hT ho;by_cases k1:k<0
  ·have d1:decide (k<0)=true:=Qy k1;have HE:QH (vqR p gs ts k=2):=yK HV.o (by omega);go_wp2_with fail;go_ret2;exact BhP.no HE.o (by decide) HG1.o
  ·have d1:decide (k<0)=false:=Qx k1;by_cases k2:6<k
   ·have d2:decide (6<k)=true:=Qy k2;have HE:QH (vqR p gs ts k=2):=yK HV.o (by omega);go_wp2_with fail;go_ret2;exact BhP.no HE.o (by decide) HG1.o
   ·have d2:decide (6<k)=false:=Qx k2;have HK:QH (0≤k∧k≤6):=⟨by omega,by omega⟩
    go_wp2_with fail;clear d1 d2 k1 k2;go_loopw [8,10] (fun f n wr=>∃ (j:Nat),n=.int .i64 ((j:Int)+1)∧QH (j≤5∧(j:Int)≤k∧cJ wr w.heap.size f (clF R (dR (pfR p gs) ts) j)∧w.grownBy wr none)) (fun _ n _=>7 - (intOf n).toNat)
    case atStart=>exact⟨0,rfl,Q0 _,HK.o.1,HO.o,HG1.o⟩
    case round =>
     obtain⟨j,rfl,HJ⟩:=hrel;obtain⟨U,hU⟩:=Qe (wr);subst hU;by_cases j1:(j:Int)+1≤k
     ·by_cases j2:(j:Int)+1≤5
      ·have d1:decide ((j:Int)+1≤k)=true:=Qy j1;have d2:decide ((j:Int)+1≤5)=true:=Qy j2;have Hj:QH ((j:Int)+1≤k∧j<5):=⟨j1,by omega⟩
       have C2:=HAll.o U _ j HJ.o.2.2.2 (by omega) (aB.Own.at HJ.o.2.2.1);unfold kw at C2;have hwk:wrap64 ((j:Int)+1+1)=(j:Int)+1+1:=(by unfold wrap64;omega);go_wp2_with fail;refine C2.mono ?_;rintro e2 w2 ⟨p2,m2,c2,p3,m3,c3,rfl,g2,-,q⟩
       have HN:QH (cJ w2 w.heap.size (.slice p2 m2 c2) (clF R (dR (pfR p gs) ts) (j+1))∧w.grownBy w2 none):=by
        have z:=(q R (rr HT.o.2.2.1 HT.o.2.1) ⟨by omega,by omega⟩ (HT.o.1.cl j).tab).1;rw[Bu];exact⟨bj z HJ.o.2.2.2.size,aa HJ.o.2.2.2 g2⟩
       clear C2 g2 q d1 d2 j1 j2;go_wp2_with fail;go_roundw
       case rel =>
        have hc:((j+1:Nat):Int)=(j:Int)+1:=(by omega);exact⟨j+1,by rw[hc];first | rfl | (rw[hwk];rfl) | go_num,Hj.o.2,by have:=Hj.o.1;omega,HN.o.1,HN.o.2⟩
       case measure =>
        have hj5:=Hj.o.2
        first | (show 7 - ((j:Int)+1+1).toNat<7 - ((j:Int)+1).toNat;omega) | (rw[hwk];show 7 - ((j:Int)+1+1).toNat<7 - ((j:Int)+1).toNat;omega)
      ·have d1:decide ((j:Int)+1≤k)=true:=Qy j1;have d2:decide ((j:Int)+1≤5)=false:=Qx j2;have k6:k=6:=(by have:=HJ.o.1;have:=HK.o.2;omega);have j5:j=5:=(by have:=HJ.o.1;omega);have d3:(k == 6)=true:=(by rw[k6];rfl);have C2:=HMk.o U _ HJ.o.2.2.2 (by have z:=aB.Own.at HJ.o.2.2.1;rw[j5] at z;exact z);have HL:QH (vBR p gs ts k=kf (mfR p) ts (clF R (dR (pfR p gs) ts) 5)∧vqR p gs ts k=0):=⟨by rw[Bw HV.o HK.o HT.o.1.tab,k6,Be],wH HV.o HK.o⟩
       clear j1 j2 k6 j5;go_wp2_with fail;refine C2.mono ?_;rintro e2 w2 ⟨v2,rfl,o2,g2⟩;have HN:QH (cJ w2 w.heap.size v2 (kf (mfR p) ts (clF R (dR (pfR p gs) ts) 5))∧w.grownBy w2 none):=⟨bj o2 HJ.o.2.2.2.size,aa HJ.o.2.2.2 g2⟩
       clear C2 g2 o2 d1 d2;go_wp2_with fail;go_ret2;exact⟨_,by rw[HL.o.2];rfl,HN.o.2,by rw[HL.o.1];exact HN.o.1⟩

     ·have d1:decide ((j:Int)+1≤k)=false:=Qx j1;have kj:k=(j:Int):=(by have:=HJ.o.2.1;omega);by_cases j5:k=6
      ·have:=HJ.o.1;omega
      ·have d3:(k == 6)=false:=(by simpa using j5);have HL:QH (vBR p gs ts k=clF R (dR (pfR p gs) ts) j∧vqR p gs ts k=0):=⟨by rw[Bw HV.o HK.o HT.o.1.tab,kj,Hy _ _ _ _ _ (by rw[←kj];exact j5)],wH HV.o HK.o⟩
       clear j1 kj j5;go_wp2_with fail;go_ret2;exact⟨_,by rw[HL.o.2];rfl,HJ.o.2.2.2,by rw[HL.o.1];exact HJ.o.2.2.1⟩
 ·have ex:(x != 0)=true:=by simpa using hx
  have HE:QH (vqR p gs ts k=x∧x≠0):=⟨by rw[Gm (by rw[←HX.o];exact hx),HX.o],hx⟩
  obtain rfl:=h0 hx;clear C1 g1 h0 h1 hx;go_wp2_with fail;go_ret2;exact BhP.no HE.o.1 HE.o.2 HG1.o
theorem zm (ok:Nat→Prop) (r:Nat) (vr:Value) (p:Pl) (gs:List Ent) (v:Value) (ts:List Th) (w:World) (B:RD ok w r vr p gs) (A:thR.At w v ts) (hc:RgC (atC p gs)):Calls prog 34 #[.pointer (some ⟨r,0,none⟩),v] w (BhP w p gs ts 6):=by
 have C1:=qe ok r vr p gs v ts 6 w B A hc;clear A B hc;go_enter func34,ntmps34;go_wp2_with fail;refine C1.mono ?_;rintro e1 w1 ⟨v1,rfl,h⟩;go_wp2_with fail;go_ret2;exact⟨_,rfl,h⟩
def zu (vc vm:Value) (op:Bool) (vt vf:Value) (ow:Bool):Value:=.agg #[vc,vm,.bool op,vt,vf,.bool ow]
def Tb1 (w:World) (g:Nat) (vc vm:Value) (op:Bool) (vt vf:Value) (ow:Bool):Prop:=w.heap[g]?=some (.cells #[vc,vm,.bool op,vt,vf,.bool ow] 85 (0,0))
theorem fd {vc vm:Value} {op:Bool} {ow:Bool} (h:Tb1 w g vc vm op vt vf ow):w.cell? ⟨g,0,none⟩=some vc∧w.cell? ⟨g,1,none⟩=some vm∧w.cell? ⟨g,2,none⟩=some (.bool op)∧w.cell? ⟨g,3,none⟩=some vt∧w.cell? ⟨g,4,none⟩=some vf∧w.cell? ⟨g,5,none⟩=some (.bool ow):=⟨(ae h 0).trans rfl,(ae h 1).trans rfl,(ae h 2).trans rfl,(ae h 3).trans rfl,(ae h 4).trans rfl,(ae h 5).trans rfl⟩
def ftR (ow:Bool) (p:Pl) (gs:List Ent) (ts:List Th) (fs:List Fe):List Fe:=if ow=true∧vqR p gs ts 6=0 then vBR p gs ts 6 else fs
theorem uh (ok:Nat→Prop) (r:Nat) (vr:Value) (p:Pl) (gs:List Ent) (vc vm vt vf:Value) (op ow:Bool) (ts:List Th) (fs:List Fe) (w:World) (B:RD ok w r vr p gs) (A:thR.At w vt ts) (AF:feR.At w vf fs) (hc:RgC (atC p gs)):Calls prog 38 #[zu vc vm op vt vf ow,.pointer (some ⟨r,0,none⟩)] w fun e w'=>∃ v,e=.returned v∧feR.At w' v (ftR ow p gs ts fs)∧w.grownBy w' none:=by
 obtain⟨W,hW⟩:=Qe (w.alloc (.cells #[vc,vm,.bool op,vt,vf,.bool ow] 85));have HG:QH (w.grownBy W none):=by rw[hW];exact QG
 have HT:QH (Tb1 W w.heap.size vc vm op vt vf ow):=by rw[hW];exact aj _ _ _
 have HF:QH (feR.At W vf fs):=AF.keep HG.o;have C1:=zm ok r vr p gs vt ts W (B.keep HG.o) (A.keep HG.o) hc;unfold BhP at C1;obtain⟨x,hx⟩:=Qe (vqR p gs ts 6);have HX:QH (x=vqR p gs ts 6):=hx;rw[←hx] at C1;clear A B AF hc hx;unfold zu;go_enter func38,ntmps38;go_upto_region 1 with fail;rw[←hW];obtain⟨n0,hn0⟩:=Qe (w.heap.size);rw[←hn0] at HT ⊢;clear hW hn0;obtain⟨c0,c1,c2,c3,c4,c5⟩:=fd HT.o;cases ow with
 | false =>
  go_wp2_with fail;go_ret;exact⟨_,rfl,by unfold ftR;rw[if_neg (fun q=>by cases q.1)];exact HF.o,HG.o⟩
 | true =>
  go_wp2_with fail;refine C1.mono ?_;rintro e1 w1 ⟨v1,rfl,g1,o1⟩;have HG1:QH (W.grownBy w1 none∧cJ w1 W.heap.size v1 (vBR p gs ts 6)):=⟨g1,o1⟩
  clear C1 g1 o1 c0 c1 c2 c3 c4 c5;by_cases h0:x=0
  ·have ex:(x == 0)=true:=(by rw[h0];rfl);have HE:QH (vqR p gs ts 6=0):=HX.o.symm.trans h0;clear h0;go_wp2_with fail;go_ret;exact⟨_,rfl,by unfold ftR;rw[if_pos ⟨rfl,HE.o⟩];exact aB.Own.at HG1.o.2,aa HG.o HG1.o.1⟩
  ·have ex:(x == 0)=false:=(by simpa using h0);have HE:QH (¬vqR p gs ts 6=0):=fun z=>h0 (HX.o.trans z);clear h0;obtain⟨c0,c1,c2,c3,c4,c5⟩:=fd (ag HG1.o.1 HT.o (by simp));go_wp2_with fail;go_ret;exact⟨_,rfl,by unfold ftR;rw[if_neg (fun q=>HE.o q.2)];exact HF.o.keep HG1.o.1,aa HG.o HG1.o.1⟩
end Go.Proofs.YtjmepebbcnhalaaGreat
namespace Go.Proofs.YtjmepebbcnhalaaGreat
open Tryz
open Go.RowKit
variable {p:Pl} {gs:List Ent} {ts:List Th} {R:List Rw} {w w':World} {g base:Nat} {vt vf bv vl v:Value} {n:Int}
structure Hp where
 vb:Int
 on:Int
 ct:Int
 ho:Int
 vn:Bool
 dr:Bool
 deriving DecidableEq
def Hp.none:Hp:=⟨0,0,0,0,false,false⟩
def cZ (nu:Int) (ps:List Pt):List Sd:=(plF ps 0 6).map fun i=>⟨nu,i,ps.getD i.toNat Pt.none⟩
def BU (fs:List Fe) (r:Rw):Bool:=gH (fs.getD (r.nu - 1).toNat Fe.none).tr 6
def kJ (fs:List Fe) (r:Rw):List Sd:=if BU fs r then [] else cZ r.nu r.ps
def swL (R:List Rw) (fs:List Fe):List Sd:=R.flatMap (kJ fs)
def hoN (fs:List Fe) (n:Int):Int:=(fs.getD (n - 1).toNat Fe.none).ho
def thN (ts:List Th) (n:Int):Th:=ts.getD (n - 1).toNat Th.none
def kP (cd:Int→Hd×List Pt) (t:Th):Bool:=decide (t.place=4) && decide ((cd t.card).1.kd=1)
def cg (n:Int):Bool:=decide (n=-1) || decide (n=-2)
def fo (cd:Int→Hd×List Pt) (ts:List Th) (fs:List Fe) (s:Sd) (n:Int):Bool :=
 if s.wh.wm=1 then decide (n=-1 - hoN fs s.th)
 else if s.wh.wm=2 then decide (n=-1 - (1 - hoN fs s.th))
 else if cg n then false
 else eW s.wh (decide (n=s.th)) (kP cd (thN ts n)) (fs.getD (n - 1).toNat Fe.none) (hoN fs s.th)
def eU (ts:List Th) (wh:Pt) (h:Hp):Bool :=
 if ¬wh.vb=19 then decide (h.vb=1)
 else if wh.wm=1∨wh.wm=2 then decide (h.vb=3)
 else decide (h.vb=6) && decide (wh.ct≤(thN ts h.on).m2)
def i6 (cd:Int→Hd×List Pt) (ts:List Th) (fs:List Fe) (s:Sd) (h:Hp):Bool:=fo cd ts fs s h.on && eU ts s.wh h
def cw (h:Hp):Bool:=decide (h.vb=1) && decide (h.ct<1)
def fl (used:List Sd) (s:Sd):Bool:=used.any fun o=>decide (o.th=s.th) && decide (o.pl=s.pl)
def kL (cd:Int→Hd×List Pt) (ts:List Th) (fs:List Fe) (h:Hp) (used:List Sd) (s:Sd):Bool:=!fl used s && i6 cd ts fs s h
def gU (cd:Int→Hd×List Pt) (ts:List Th) (fs:List Fe) (L:List Sd) (h:Hp) (used:List Sd):Option Sd:=L.find? (kL cd ts fs h used)
def dO (ts:List Th) (n:Int):Bool:=decide (1≤n) && (decide (n≤(ts.length:Int)) && decide ((thN ts n).place=4))
def aK (ts:List Th) (h:Hp):Bool :=
 if h.vb=1 then (cg h.on || dO ts h.on) && (decide (-9999≤h.ct) && decide (h.ct≤9999))
 else if h.vb=6 then dO ts h.on
 else if h.vb=3 then cg h.on
 else false
def kp (cd:Int→Hd×List Pt):Prop:=∀ c,∀ p∈(cd c).2,p.wn=6→16≤p.vb∧p.vb≤19∧(p.vb=16∨p.vb=19→1≤p.ct∧p.ct≤99)
set_option maxRecDepth 100000
set_option maxHeartbeats 4000000
def dn (bv vt vf vl:Value):Value:=.agg #[bv,vt,vf,vl]
def dg (w:World) (g:Nat) (bv vt vf vl:Value):Prop:=w.heap[g]?=some (.cells #[bv,vt,vf,vl] 175 (0,0))
theorem bg (h:dg w g bv vt vf vl):w.cell? ⟨g,0,none⟩=some bv∧w.cell? ⟨g,1,none⟩=some vt∧w.cell? ⟨g,2,none⟩=some vf∧w.cell? ⟨g,3,none⟩=some vl:=⟨(ae h 0).trans rfl,(ae h 1).trans rfl,(ae h 2).trans rfl,(ae h 3).trans rfl⟩
def hpv (h:Hp):Value:=.agg #[.int .u8 h.vb,.int .i64 h.on,.int .i64 h.ct,.int .i64 h.ho,.bool h.vn,.bool h.dr]
def HpB (w:World) (g:Nat) (h:Hp):Prop:=w.heap[g]?=some (.cells #[.int .u8 h.vb,.int .i64 h.on,.int .i64 h.ct,.int .i64 h.ho,.bool h.vn,.bool h.dr] 87 (0,0))
theorem aJ {h:Hp} (H:HpB w g h):w.cell? ⟨g,0,none⟩=some (.int .u8 h.vb)∧w.cell? ⟨g,1,none⟩=some (.int .i64 h.on)∧w.cell? ⟨g,2,none⟩=some (.int .i64 h.ct)∧w.cell? ⟨g,3,none⟩=some (.int .i64 h.ho)∧w.cell? ⟨g,4,none⟩=some (.bool h.vn)∧w.cell? ⟨g,5,none⟩=some (.bool h.dr) :=
 ⟨(ae H 0).trans rfl,(ae H 1).trans rfl,(ae H 2).trans rfl,(ae H 3).trans rfl,(ae H 4).trans rfl,(ae H 5).trans rfl⟩
theorem fV (k:Int) (w:World):Calls prog 230 #[.int .i64 k] w fun e w'=>e=.returned (.int .i64 (wrap64 (-1 - k)))∧w'=w:=by
 go_enter func230,ntmps230;go_wp2;go_ret;exact⟨rfl,rfl⟩
theorem td (k:Int) (w:World):Calls prog 235 #[.int .i64 k] w fun e w'=>e=.returned (.int .i64 (wrap64 (1 - k)))∧w'=w:=by
 go_enter func235,ntmps235;go_wp2;go_ret;exact⟨rfl,rfl⟩
theorem qV (w:World):Calls prog 230 #[.int .i64 0] w fun e w'=>e=.returned (.int .i64 (-1))∧w'=w:=by
 have h:=fV 0 w;rwa [show wrap64 (-1 - 0)=-1 from by unfold wrap64;omega] at h
theorem B9 (w:World):Calls prog 230 #[.int .i64 1] w fun e w'=>e=.returned (.int .i64 (-2))∧w'=w:=by
 have h:=fV 1 w;rwa [show wrap64 (-1 - 1)=-2 from by unfold wrap64;omega] at h
theorem Dd (h:¬n=-1):cg n=(n == -2):=by
 by_cases k:n=-2
 ·subst k;rfl
 ·unfold cg;simp[h,k]
theorem fO (n:Int) (w:World):Calls prog 162 #[.int .i64 n] w fun e w'=>e=.returned (.bool (cg n))∧w'=w:=by
 by_cases h0:n=-1
 ·have e0:(n == -1)=true:=by rw[h0];rfl
  have HE:QH (cg n=true):=by show cg n=_;unfold cg;rw[Qy h0,Qdh]
  clear h0;go_enter func162,ntmps162;go_wp2_with fail;refine(qV _).mono ?_;rintro e1 w1 ⟨rfl,rfl⟩;go_wp2_with fail;go_ret;exact⟨aI HE.o.symm,rfl⟩
 ·have e0:(n == -1)=false:=by simpa using h0
  have HE:QH (cg n=(n == -2)):=Dd h0;clear h0;go_enter func162,ntmps162;go_wp2_with fail;refine(qV _).mono ?_;rintro e1 w1 ⟨rfl,rfl⟩;go_wp2_with fail;refine(B9 _).mono ?_;rintro e2 w2 ⟨rfl,rfl⟩;go_wp2_with fail;go_ret;exact⟨aI HE.o.symm,rfl⟩
theorem lU (bv vt vf vl:Value) (F:List Fe) (s:Sd) (z:Nat) (f:Fe) (w:World) (AF:feR.At w vf F) (hf:F[z]?=some f) (hz:s.th=(z:Int)+1) (hl:F.length≤4096):Calls prog 234 #[dn bv vt vf vl,sdv s] w fun e w'=>e=.returned (.int .i64 f.ho)∧w.grownBy w' none:=by
 obtain⟨pf,cf,rfl⟩:=AF.form;have hzf:z<F.length:=(Qh hf).1;obtain⟨V,hV⟩:=Qe ((w.alloc (.cells #[bv,vt,.slice pf F.length cf,vl] 175)).alloc (.cells #[.int .i64 s.th,.int .i64 s.pl,.int .u8 s.wh.wn,.int .u8 s.wh.vb,.int .u8 s.wh.wm,.int .i64 s.wh.ct,.int .u8 s.wh.su,.int .u8 s.wh.tr,.int .u8 s.wh.mr,.string s.wh.nm] 64));have HG:QH (w.grownBy V none):=by rw[hV];exact am QG _
 have HS:QH (SdB V (w.heap.size+1) s):=by rw[hV];exact aT _ _ _ _
 have HC:QH (dg V w.heap.size bv vt (.slice pf F.length cf) vl):=by rw[hV];exact ag QG (aj w _ _) (by simp)
 have z1:((z:Int))<(F.length:Int):=Int.ofNat_lt.2 hzf;have wz:wrap64 (z:Int)=(z:Int):=by unfold wrap64;omega
 have wz2:IntKind.i64.wrap (z:Int)=(z:Int):=by rw[IntWalk.i64_in _ (by omega)]
 obtain⟨gF,oF,cF,eF,-⟩:=dh AF hzf;injection eF with eF eF2 eF3;clear eF2 eF3;subst eF;obtain⟨g0,-⟩:=bP (ed (AF.keep HG.o) hf);obtain⟨s0,-⟩:=aQ HS.o;obtain⟨-,-,c2,-⟩:=bg HC.o;rw[hz] at s0;have Hz:QH (s.th=(z:Int)+1):=hz;unfold dn sdv;clear AF hf hl hzf hz;go_enter func234,ntmps234;go_upto_region 1 with fail;rw[←hV];clear hV;go_wp2;go_ret;exact⟨rfl,HG.o⟩
theorem kV (bv vt vf vl:Value) (ts:List Th) (j:Nat) (t:Th) (w:World) (A:thR.At w vt ts) (ht:ts[j]?=some t) (hl:ts.length≤2048):Calls prog 164 #[dn bv vt vf vl,.int .i64 ((j:Int)+1)] w fun e w'=>e=.returned (.int .i64 t.m2)∧w.grownBy w' none:=by
 obtain⟨pt,ct,rfl⟩:=A.form;have hjl:j<ts.length:=(Qh ht).1;obtain⟨V,hV⟩:=Qe (w.alloc (.cells #[bv,.slice pt ts.length ct,vf,vl] 175));have HG:QH (w.grownBy V none):=by rw[hV];exact QG
 have HC:QH (dg V w.heap.size bv (.slice pt ts.length ct) vf vl):=by rw[hV];exact aj w _ _
 have z1:((j:Int))<(ts.length:Int):=Int.ofNat_lt.2 hjl;have wz:wrap64 (j:Int)=(j:Int):=by unfold wrap64;omega
 have wz2:IntKind.i64.wrap (j:Int)=(j:Int):=by rw[IntWalk.i64_in _ (by omega)]
 obtain⟨gT,oT,cT,eT,-⟩:=bz A hjl;injection eT with eT eT2 eT3;clear eT2 eT3;subst eT;obtain⟨-,-,-,-,-,-,-,t7,-⟩:=aZ (eJ (A.keep HG.o) ht);obtain⟨-,c1,-,-⟩:=bg HC.o;unfold dn;clear A ht hl hjl;go_enter func164,ntmps164;go_upto_region 1 with fail;rw[←hV];clear hV;go_wp2;go_ret;exact⟨rfl,HG.o⟩
open Go.Shelf





theorem FA {l:List Int} (h:bm w base v l) {j:Nat} (hj:j<l.length):∃ g c,v=.slice (some ⟨g,0,none⟩) l.length c∧w.cell? ⟨g,j,none⟩=some (.int .i64 (l.getD j 0)):=by
 obtain⟨g,c,e,_,_,_,_,hc⟩:=eB h (by omega);refine⟨g,c,e,(hc j (by omega)).1.trans ?_⟩;unfold dt;rw[Qak,Qg hj,Qc1,aG hj]
