import Derived.Test.YthfjgpjcepmnmaaGreatO48
import Derived.Test.YthfjgpjcepmnmaaGreatO50
import Derived.Test.YthfjgpjcepmnmaaGreatO45
import Derived.Test.YthfjgpjcepmnmaaGreatO19
import Derived.Test.YthfjgpjcepmnmaaGreatO25
namespace Go.Proofs.YthfjgpjcepmnmaaGreat
set_option maxRecDepth 100000
set_option maxHeartbeats 4000000
open Go.RowKit Go.Shelf
def vqR (p:Pl) (gs:List Ent) (ts:List Th) (k:Int):Int:=vqE (vkR p gs ts) (decide (0≤k∧k≤6)) 2
def vBR (p:Pl) (gs:List Ent) (ts:List Th) (k:Int):List Fe:=vBh (bT p ts.length) (gs.length:Int) (atC p gs) ts (pfR p gs) (mfR p) meR k
theorem Fh {p:Pl} {gs:List Ent} {ts:List Th} {k:Int} (h:¬vqR p gs ts k=0):vBR p gs ts k=[]:=if_neg h
theorem EI {p:Pl} {gs:List Ent} {ts:List Th} {k:Int} (h:¬vkR p gs ts=0):vqR p gs ts k=vkR p gs ts:=Fd h
theorem wL {p:Pl} {gs:List Ent} {ts:List Th} {k:Int} (h:vkR p gs ts=0) (hk:¬(0≤k∧k≤6)):vqR p gs ts k=2:=by unfold vqR;rw[h,decide_eq_false hk];rfl
theorem tH {p:Pl} {gs:List Ent} {ts:List Th} {k:Int} (h:vkR p gs ts=0) (hk:0≤k∧k≤6):vqR p gs ts k=0:=by unfold vqR;rw[h,decide_eq_true hk];rfl
theorem zU {p:Pl} {gs:List Ent} {ts:List Th} {k:Int} {R:List Rw} (h:vkR p gs ts=0) (hk:0≤k∧k≤6) (hT:bd (gs.length:Int) (atC p gs) ts (dx (pfR p gs) ts)=some R):vBR p gs ts k=bhL R (mfR p) ts (dx (pfR p gs) ts) k:=(if_pos (tH h hk)).trans (by rw[hT])
theorem zP (R:List Rw) (F:List Fe) (j:Nat):clF R F (j+1)=dN (clF R F j) R (mc R (clF R F j) ((j:Int)+1)).1:=by
 rw[clF,uj]
theorem FC (R:List Rw) (mf:Fe→Th→Fe) (ts:List Th) (F:List Fe):bhL R mf ts F 6=qw mf ts (clF R F 5):=if_pos rfl
theorem ES (R:List Rw) (mf:Fe→Th→Fe) (ts:List Th) (F:List Fe) (j:Nat) (h:¬(j:Int)=6):bhL R mf ts F (j:Int)=clF R F j:=by
 unfold bhL
 rw[if_neg h,Int.toNat_natCast]
theorem rz {me:Th→Int}:∀ {ts:List Th},mkE me ts=0→∀ t∈ts,t.place=4→me t=0
 | [],_,t,ht,_=>by cases ht
 | a :: l,h,t,ht,h4=>by
  by_cases q:a.place=4∧me a≠0
  ·rw[Aa q.1 q.2] at h;exact absurd h q.2
  ·rw[pC q] at h
   rcases List.mem_cons.1 ht with e | e
   ·subst e
    exact Decidable.byContradiction fun z=>q ⟨h4,z⟩
   ·exact rz h t e h4
theorem EJ {p:Pl} {gs:List Ent} {ts:List Th} (h:vkR p gs ts=0):p.shut=true∧ts.length≤2048∧(∃ R,Tab (gs.length:Int) (atC p gs) ts (dx (pfR p gs) ts) R)∧∀ t∈ts,t.place=4→iw t.m0 t.m1 t.m2 t.m3=true:=by
 unfold vkR at h
 obtain⟨h1,h2,h3⟩:=El h
 have h4:ts.length≤2048∧p.shut=true:=by
  unfold bT at h1
  split at h1
  ·cases h1
  ·split at h1
   ·exact⟨by omega,by assumption⟩
   ·cases h1
 rw[List.take_of_length_le h4.1] at h2
 refine⟨h4.2,h4.1,h2,fun t ht q=>?_⟩
 have h5:=rz h3 t ht q
 unfold meR at h5
 split at h5
 ·assumption
 ·cases h5
def BhP (w:World) (p:Pl) (gs:List Ent) (ts:List Th) (k:Int) (e:Ending) (w':World):Prop:=∃ v,e=.returned (.tuple #[v,.int .i64 (vqR p gs ts k)])∧w.grownBy w' none∧bO w' w.heap.size v (vBR p gs ts k)
theorem BhP.no {w w':World} {p:Pl} {gs:List Ent} {ts:List Th} {k q:Int} (h:vqR p gs ts k=q) (hq:q≠0) (g:w.grownBy w' none):BhP w p gs ts k (.returned (.tuple #[.slice none 0 0,.int .i64 q])) w':=⟨_,by rw[h],g,by rw[Fh (by rw[h];exact hq)];exact ay.Own.nil _ _ _ _⟩
theorem nN (ok:Nat→Prop) (r:Nat) (vr:Value) (p:Pl) (gs:List Ent) (v:Value) (ts:List Th) (k:Int) (w:World) (B:RD ok w r vr p gs) (A:thR.At w v ts) (hc:RgC (atC p gs)):Calls Tryz.prog 55 #[.pointer (some ⟨r,0,none⟩),v,.int .i64 k] w (BhP w p gs ts k):=by
 have C1:=qH ok r vr p gs v ts w B A hc
 unfold StP at C1
 have HB:Hid (RD ok w r vr p gs∧thR.At w v ts∧RgC (atC p gs)):=⟨B,A,hc⟩
 obtain⟨x,hx⟩:∃ x,x=vkR p gs ts:=⟨_,rfl⟩
 have HX:Hid (x=vkR p gs ts):=hx
 rw[←hx] at C1
 clear A B hc hx
 go_enter Tryz.func55,Tryz.ntmps55
 go_wp2_with fail
 refine C1.mono ?_
 rintro e1 w1 ⟨v1,rfl,g1,h0,h1⟩
 have HG1:Hid (w.grownBy w1 none):=g1
 by_cases hx:x=0
 ·have HO:Hid (bO w1 w.heap.size v1 (dx (pfR p gs) ts)):=h1 hx
  have HV:Hid (vkR p gs ts=0):=HX.out.symm.trans hx
  subst hx
  clear C1 g1 h0 h1
  obtain⟨hs,hl,⟨R,hT⟩,ho⟩:=EJ HV.out
  have HT:Hid (Tab (gs.length:Int) (atC p gs) ts (dx (pfR p gs) ts) R∧p.shut=true∧ts.length≤2048∧∀ t∈ts,t.place=4→iw t.m0 t.m1 t.m2 t.m3=true):=⟨hT,hs,hl,ho⟩
  have HAll:Hid (∀ X vf (j:Nat),w.grownBy X none→j<5→feR.At X vf (clF R (dx (pfR p gs) ts) j)→Calls Tryz.prog 42 #[.pointer (some ⟨r,0,none⟩),v,vf,.int .i64 ((j:Int)+1)] X (pS X (bT p ts.length) (gs.length:Int) (atC p gs) ts (clF R (dx (pfR p gs) ts) j) ((j:Int)+1))):=fun X vf j g hj F=>zR ok r vr p gs v vf ts _ _ X (HB.out.1.keep g) (HB.out.2.1.keep g) F (Ad HT.out.1 HB.out.2.2 (ui HB.out.2.2 ts) j).tr
  have HMk:Hid (∀ X vf,w.grownBy X none→feR.At X vf (clF R (dx (pfR p gs) ts) 5)→Calls Tryz.prog 119 #[.pointer (some ⟨r,0,none⟩),v,vf] X fun e w'=>∃ v',e=.returned v'∧bO w' X.heap.size v' (qw (mfR p) ts (clF R (dx (pfR p gs) ts) 5))∧X.grownBy w' none):=fun X vf g F=>nK ok r vr p gs v vf ts _ X (HB.out.1.keep g) (HB.out.2.1.keep g) F (by rw[vE,zm]) HT.out.2.2.1 (Ad HT.out.1 HB.out.2.2 (ui HB.out.2.2 ts) 5) HT.out.2.2.2
  clear hs hl hT ho
  by_cases k1:k<0
  ·have d1:decide (k<0)=true:=decide_eq_true k1
   have HE:Hid (vqR p gs ts k=2):=wL HV.out (by omega)
   go_wp2_with fail
   go_ret2
   exact BhP.no HE.out (by decide) HG1.out
  ·have d1:decide (k<0)=false:=decide_eq_false k1
   by_cases k2:6<k
   ·have d2:decide (6<k)=true:=decide_eq_true k2
    have HE:Hid (vqR p gs ts k=2):=wL HV.out (by omega)
    go_wp2_with fail
    go_ret2
    exact BhP.no HE.out (by decide) HG1.out
   ·have d2:decide (6<k)=false:=decide_eq_false k2
    have HK:Hid (0≤k∧k≤6):=⟨by omega,by omega⟩
    go_wp2_with fail
    clear d1 d2 k1 k2
    go_loopw [8,10] (fun f n wr=>∃ (j:Nat),n=.int .i64 ((j:Int)+1)∧Hid (j≤5∧(j:Int)≤k∧bO wr w.heap.size f (clF R (dx (pfR p gs) ts) j)∧w.grownBy wr none)) (fun _ n _=>7 - (intOf n).toNat)
    case atStart=>exact⟨0,rfl,Nat.zero_le _,HK.out.1,HO.out,HG1.out⟩
    case round =>
     obtain⟨j,rfl,HJ⟩:=hrel
     obtain⟨U,hU⟩:∃ U,U=wr:=⟨_,rfl⟩
     subst hU
     by_cases j1:(j:Int)+1≤k
     ·by_cases j2:(j:Int)+1≤5
      ·have d1:decide ((j:Int)+1≤k)=true:=decide_eq_true j1
       have d2:decide ((j:Int)+1≤5)=true:=decide_eq_true j2
       have Hj:Hid ((j:Int)+1≤k∧j<5):=⟨j1,by omega⟩
       have C2:=HAll.out U _ j HJ.out.2.2.2 (by omega) (ay.Own.at HJ.out.2.2.1)
       unfold pS at C2
       have hwk:wrap64 ((j:Int)+1+1)=(j:Int)+1+1:=by unfold wrap64;omega
       go_wp2_with fail
       refine C2.mono ?_
       rintro e2 w2 ⟨p2,m2,c2,p3,m3,c3,rfl,g2,-,q⟩
       have HN:Hid (bO w2 w.heap.size (.slice p2 m2 c2) (clF R (dx (pfR p gs) ts) (j+1))∧w.grownBy w2 none):=by
        have z:=(q R (oz HT.out.2.2.1 HT.out.2.1) ⟨by omega,by omega⟩ (HT.out.1.cl j).tab).1
        rw[zP]
        exact⟨aY z HJ.out.2.2.2.size,aa HJ.out.2.2.2 g2⟩
       clear C2 g2 q d1 d2 j1 j2
       go_wp2_with fail
       go_roundw
       case rel =>
        have hc:((j+1:Nat):Int)=(j:Int)+1:=by omega
        exact⟨j+1,by rw[hc];first | rfl | (rw[hwk];rfl) | go_num,Hj.out.2,by have:=Hj.out.1;omega,HN.out.1,HN.out.2⟩
       case measure =>
        have hj5:=Hj.out.2
        first | (show 7 - ((j:Int)+1+1).toNat<7 - ((j:Int)+1).toNat;omega) | (rw[hwk];show 7 - ((j:Int)+1+1).toNat<7 - ((j:Int)+1).toNat;omega)
      ·have d1:decide ((j:Int)+1≤k)=true:=decide_eq_true j1
       have d2:decide ((j:Int)+1≤5)=false:=decide_eq_false j2
       have k6:k=6:=by have:=HJ.out.1;have:=HK.out.2;omega
       have j5:j=5:=by have:=HJ.out.1;omega
       have d3:(k == 6)=true:=by rw[k6];rfl
       have C2:=HMk.out U _ HJ.out.2.2.2 (by have z:=ay.Own.at HJ.out.2.2.1;rw[j5] at z;exact z)
       have HL:Hid (vBR p gs ts k=qw (mfR p) ts (clF R (dx (pfR p gs) ts) 5)∧vqR p gs ts k=0):=⟨by rw[zU HV.out HK.out HT.out.1.tab,k6,FC],tH HV.out HK.out⟩
       clear j1 j2 k6 j5
       go_wp2_with fail
       refine C2.mono ?_
       rintro e2 w2 ⟨v2,rfl,o2,g2⟩
       have HN:Hid (bO w2 w.heap.size v2 (qw (mfR p) ts (clF R (dx (pfR p gs) ts) 5))∧w.grownBy w2 none):=⟨aY o2 HJ.out.2.2.2.size,aa HJ.out.2.2.2 g2⟩
       clear C2 g2 o2 d1 d2
       go_wp2_with fail
       go_ret2
       exact⟨_,by rw[HL.out.2];rfl,HN.out.2,by rw[HL.out.1];exact HN.out.1⟩

     ·have d1:decide ((j:Int)+1≤k)=false:=decide_eq_false j1
      have kj:k=(j:Int):=by have:=HJ.out.2.1;omega
      by_cases j5:k=6
      ·have:=HJ.out.1;omega
      ·have d3:(k == 6)=false:=by simpa using j5
       have HL:Hid (vBR p gs ts k=clF R (dx (pfR p gs) ts) j∧vqR p gs ts k=0):=⟨by rw[zU HV.out HK.out HT.out.1.tab,kj,ES _ _ _ _ _ (by rw[←kj];exact j5)],tH HV.out HK.out⟩
       clear j1 kj j5
       go_wp2_with fail
       go_ret2
       exact⟨_,by rw[HL.out.2];rfl,HJ.out.2.2.2,by rw[HL.out.1];exact HJ.out.2.2.1⟩
 ·have ex:(x != 0)=true:=by simpa using hx
  have HE:Hid (vqR p gs ts k=x∧x≠0):=⟨by rw[EI (by rw[←HX.out];exact hx),HX.out],hx⟩
  obtain rfl:=h0 hx
  clear C1 g1 h0 h1 hx
  go_wp2_with fail
  go_ret2
  exact BhP.no HE.out.1 HE.out.2 HG1.out
theorem xp (ok:Nat→Prop) (r:Nat) (vr:Value) (p:Pl) (gs:List Ent) (v:Value) (ts:List Th) (w:World) (B:RD ok w r vr p gs) (A:thR.At w v ts) (hc:RgC (atC p gs)):Calls Tryz.prog 54 #[.pointer (some ⟨r,0,none⟩),v] w (BhP w p gs ts 6):=by
 have C1:=nN ok r vr p gs v ts 6 w B A hc
 clear A B hc
 go_enter Tryz.func54,Tryz.ntmps54
 go_wp2_with fail
 refine C1.mono ?_
 rintro e1 w1 ⟨v1,rfl,h⟩
 go_wp2_with fail
 go_ret2
 exact⟨_,rfl,h⟩
def yu (vc vm:Value) (op:Bool) (vt vf:Value) (ow:Bool):Value:=.agg #[vc,vm,.bool op,vt,vf,.bool ow]
def Tb1 (w:World) (g:Nat) (vc vm:Value) (op:Bool) (vt vf:Value) (ow:Bool):Prop:=w.heap[g]?=some (.cells #[vc,vm,.bool op,vt,vf,.bool ow] 72 (0,0))
theorem fa {w:World} {g:Nat} {vc vm:Value} {op:Bool} {vt vf:Value} {ow:Bool} (h:Tb1 w g vc vm op vt vf ow):w.cell? ⟨g,0,none⟩=some vc∧w.cell? ⟨g,1,none⟩=some vm∧w.cell? ⟨g,2,none⟩=some (.bool op)∧w.cell? ⟨g,3,none⟩=some vt∧w.cell? ⟨g,4,none⟩=some vf∧w.cell? ⟨g,5,none⟩=some (.bool ow):=⟨(ac h 0).trans rfl,(ac h 1).trans rfl,(ac h 2).trans rfl,(ac h 3).trans rfl,(ac h 4).trans rfl,(ac h 5).trans rfl⟩
def ftR (ow:Bool) (p:Pl) (gs:List Ent) (ts:List Th) (fs:List Fe):List Fe:=if ow=true∧vqR p gs ts 6=0 then vBR p gs ts 6 else fs
theorem sl (ok:Nat→Prop) (r:Nat) (vr:Value) (p:Pl) (gs:List Ent) (vc vm vt vf:Value) (op ow:Bool) (ts:List Th) (fs:List Fe) (w:World) (B:RD ok w r vr p gs) (A:thR.At w vt ts) (AF:feR.At w vf fs) (hc:RgC (atC p gs)):Calls Tryz.prog 17 #[yu vc vm op vt vf ow,.pointer (some ⟨r,0,none⟩)] w fun e w'=>∃ v,e=.returned v∧feR.At w' v (ftR ow p gs ts fs)∧w.grownBy w' none:=by
 obtain⟨W,hW⟩:∃ W,W=w.alloc (.cells #[vc,vm,.bool op,vt,vf,.bool ow] 72):=⟨_,rfl⟩
 have HG:Hid (w.grownBy W none):=by rw[hW];exact World.grownBy_alloc _ _ none
 have HT:Hid (Tb1 W w.heap.size vc vm op vt vf ow):=by rw[hW];exact ai _ _ _
 have HF:Hid (feR.At W vf fs):=AF.keep HG.out
 have C1:=xp ok r vr p gs vt ts W (B.keep HG.out) (A.keep HG.out) hc
 unfold BhP at C1
 obtain⟨x,hx⟩:∃ x,x=vqR p gs ts 6:=⟨_,rfl⟩
 have HX:Hid (x=vqR p gs ts 6):=hx
 rw[←hx] at C1
 clear A B AF hc hx
 unfold yu
 go_enter Tryz.func17,Tryz.ntmps17
 go_upto_region 1 with fail
 rw[←hW]
 obtain⟨n0,hn0⟩:∃ n0,n0=w.heap.size:=⟨_,rfl⟩
 rw[←hn0] at HT ⊢
 clear hW hn0
 obtain⟨c0,c1,c2,c3,c4,c5⟩:=fa HT.out
 cases ow with
 | false =>
  go_wp2_with fail
  go_ret
  exact⟨_,rfl,by unfold ftR;rw[if_neg (fun q=>by cases q.1)];exact HF.out,HG.out⟩
 | true =>
  go_wp2_with fail
  refine C1.mono ?_
  rintro e1 w1 ⟨v1,rfl,g1,o1⟩
  have HG1:Hid (W.grownBy w1 none∧bO w1 W.heap.size v1 (vBR p gs ts 6)):=⟨g1,o1⟩
  clear C1 g1 o1 c0 c1 c2 c3 c4 c5
  by_cases h0:x=0
  ·have ex:(x == 0)=true:=by rw[h0];rfl
   have HE:Hid (vqR p gs ts 6=0):=HX.out.symm.trans h0
   clear h0
   go_wp2_with fail
   go_ret
   exact⟨_,rfl,by unfold ftR;rw[if_pos ⟨rfl,HE.out⟩];exact ay.Own.at HG1.out.2,aa HG.out HG1.out.1⟩
  ·have ex:(x == 0)=false:=by simpa using h0
   have HE:Hid (¬vqR p gs ts 6=0):=fun z=>h0 (HX.out.trans z)
   clear h0
   obtain⟨c0,c1,c2,c3,c4,c5⟩:=fa (ae HG1.out.1 HT.out (by simp))
   go_wp2_with fail
   go_ret
   exact⟨_,rfl,by unfold ftR;rw[if_neg (fun q=>HE.out q.2)];exact HF.out.keep HG1.out.1,aa HG.out HG1.out.1⟩
theorem Av {q:Pt} (h:chk q=0) (hw:q.wn=6):16≤q.vb∧q.vb≤19∧(q.vb=16∨q.vb=19→1≤q.ct∧q.ct≤99):=by
 unfold chk at h
 split at h
 ·omega
 ·split at h
  ·omega
  ·rename_i h1 h2
   split at h
   ·omega
   ·split at h
    ·omega
    ·rename_i h3 h4
     have e1:cls q.vb=3:=by
      rw[hw] at h2
      by_cases c:cls q.vb=wnt 6
      ·rw[c];rfl
      ·exact absurd (Or.inl c) h2
     have e2:16≤q.vb∧q.vb≤19:=by
      unfold cls at e1
      repeat' split at e1
      all_goals omega
     refine⟨e2.1,e2.2,fun hv=>?_⟩
     have e3:dM q.vb q.ct=true:=by
      cases hc:dM q.vb q.ct
      ·exact absurd (Or.inl hc) h4
      ·rfl
     unfold dM at e3
     rcases hv with hv | hv <;> rw[hv] at e3 <;> by_cases h0:q.ct=0
     ·rw[if_pos h0] at e3;exact absurd e3 (by decide)
     ·rw[if_neg h0,Bool.and_eq_true,decide_eq_true_eq,decide_eq_true_eq] at e3;exact e3
     ·rw[if_pos h0] at e3;exact absurd e3 (by decide)
     ·rw[if_neg h0,Bool.and_eq_true,decide_eq_true_eq,decide_eq_true_eq] at e3;exact e3
theorem EH {c:Cd} (h:dR c=0):dK c.kd c.ps=0:=by
 unfold dR at h
 repeat' split at h
 all_goals first | omega | exact h
theorem xV {ok:Nat→Prop} {w:World} {b:Nat} {es:List Ent} {p:Pl} (B:cR ok w b es p):nk (atC p es):=fun c q hq hw=>by
 unfold atC at hq
 split at hq
 ·split at hq
  ·rename_i e he
   exact Av (kx _ _ (EH (B.may e (List.mem_of_getElem? he))) q hq) hw
  ·simp at hq
 ·simp at hq
theorem wS:nk (fun _=>(Hd.none,[])):=fun _ q hq=>by simp at hq
theorem SIn.of' {ok:Nat→Prop} {w:World} {b:Nat} {es:List Ent} {p:Pl} {vt vf:Value} {ts:List Th} {fs:List Fe} (B:cR ok w b es p) (T:thR.At w vt ts) (F:feR.At w vf fs):SIn w (.pointer (some ⟨b,0,none⟩)) vt vf (bT p ts.length) (es.length:Int) (atC p es) ts fs:=⟨LIn.of' B T F,fun hr X t g h1 h2=>by
 have hs:p.shut=true:=by
  unfold bT at hr
  repeat' split at hr
  all_goals first | assumption | omega
 have h:=lr ok b es p t X (B.keep g)
 rwa [show atX p es t.card=0 from if_pos ⟨hs,h1,h2⟩] at h,xV B⟩
theorem SIn.of {ok:Nat→Prop} {w:World} {b:Nat} {es:List Ent} {p:Pl} {vt vf:Value} {ts:List Th} {fs:List Fe} (B:cR ok w b es p) (T:thR.At w vt ts) (F:feR.At w vf fs) (_:fs.length≤4096):SIn w (.pointer (some ⟨b,0,none⟩)) vt vf (bT p ts.length) (es.length:Int) (atC p es) ts fs:=SIn.of' B T F
theorem SIn.no {w:World} {v vt vf:Value} {ts:List Th} {fs:List Fe} (B:nv w v) (T:thR.At w vt ts) (F:feR.At w vf fs):SIn w v vt vf 1 0 (fun _=>(Hd.none,[])) ts fs:=⟨LIn.no B T F,fun h=>by omega,wS⟩
def crd (nm:ByteArray) (su kd he:Int):Hd:=⟨nm,su,kd,0,0,he,0,false⟩
theorem j6 (nm:ByteArray) (su kd he:Int) (pa:Option Addr) (pn pc:Nat) (w:World):Calls Tryz.prog 60 #[.string nm,.int .u8 su,.int .u8 kd,.int .i64 he,.slice pa pn pc] w fun e w'=>e=.returned (cv (crd nm su kd he) (.slice pa pn pc))∧w.grownBy w' none:=by
 obtain⟨W1,hW1⟩:∃ W1,W1=w.alloc (.cells #[.string ⟨#[]⟩,.int .u8 0,.int .u8 0,.int .i64 0,.int .i64 0,.int .i64 0,.int .u16 0,.bool false,.slice none 0 0] 54):=⟨_,rfl⟩
 have HG1:Hid (w.grownBy W1 none):=by rw[hW1];exact World.grownBy_alloc _ _ none
 have HR1:Hid (W1.heap[w.heap.size]?=some (.cells #[.string ⟨#[]⟩,.int .u8 0,.int .u8 0,.int .i64 0,.int .i64 0,.int .i64 0,.int .u16 0,.bool false,.slice none 0 0] 54 (0,0))):=by rw[hW1];exact ai _ _ _
 unfold cv crd
 go_enter Tryz.func60,Tryz.ntmps60
 go_upto_region 1 with fail
 rw[←hW1]
 clear hW1
 obtain⟨n0,hn0⟩:∃ n0,n0=w.heap.size:=⟨_,rfl⟩
 have Hn0:Hid (w.heap.size≤n0):=by show _≤_;omega
 simp only[←hn0] at HR1 ⊢
 clear hn0
 have rf:=fun i=>ao HR1.out i
 have r0:W1.cell? ⟨n0,0,none⟩=some (.string ⟨#[]⟩):=(ac HR1.out 0).trans rfl
 have r1:W1.cell? ⟨n0,1,none⟩=some (.int .u8 0):=(ac HR1.out 1).trans rfl
 have r2:W1.cell? ⟨n0,2,none⟩=some (.int .u8 0):=(ac HR1.out 2).trans rfl
 have r3:W1.cell? ⟨n0,3,none⟩=some (.int .i64 0):=(ac HR1.out 3).trans rfl
 have r4:W1.cell? ⟨n0,4,none⟩=some (.int .i64 0):=(ac HR1.out 4).trans rfl
 have r5:W1.cell? ⟨n0,5,none⟩=some (.int .i64 0):=(ac HR1.out 5).trans rfl
 have r6:W1.cell? ⟨n0,6,none⟩=some (.int .u16 0):=(ac HR1.out 6).trans rfl
 have r7:W1.cell? ⟨n0,7,none⟩=some (.bool false):=(ac HR1.out 7).trans rfl
 have r8:W1.cell? ⟨n0,8,none⟩=some (.slice none 0 0):=(ac HR1.out 8).trans rfl
 go_wp2_with fail
 refine bodyPost_ret (v:=.agg #[.string nm,.int .u8 su,.int .u8 kd,.int .i64 0,.int .i64 0,.int .i64 he,.int .u16 0,.bool false,.slice pa pn pc]) (by simp[results,Tryz.results60,go_sem,r0,r1,r2,r3,r4,r5,r6,r7,r8]) rfl ⟨rfl,?_⟩
 have k:∀ {v:World} (i:Nat) (u:Value),w.grownBy v none→w.grownBy (v.setCell ⟨n0,i,none⟩ u) none:=fun i u q=>am q (aj _ _ _ _) (fun y e=>by cases e;exact Hn0.out)
 exact k _ _ (k _ _ (k _ _ (k _ _ (k _ _ (k _ _ (k _ _ (k _ _ (k _ _ HG1.out))))))))
end Go.Proofs.YthfjgpjcepmnmaaGreat
