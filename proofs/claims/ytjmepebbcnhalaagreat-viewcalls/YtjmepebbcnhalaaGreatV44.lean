import Derived.Test.YtjmepebbcnhalaaGreatV43
namespace Go.Proofs.YtjmepebbcnhalaaGreat
set_option maxRecDepth 100000
set_option maxHeartbeats 4000000
open Go.RowKit Go.Shelf
variable {p:Pl} {gs:List Ent} {ts:List Th} {k q r n:Int} {R:List Rw} {w w':World} {bp:Option Addr} {vt:Value} {cd:Int→Hd×List Pt} {pf:Th→Fe} {me:Th→Int} {g:Nat}
def vqR (p:Pl) (gs:List Ent) (ts:List Th) (k:Int):Int:=vqE (vkR p gs ts) (decide (0≤k∧k≤6)) 2
def vBR (p:Pl) (gs:List Ent) (ts:List Th) (k:Int):List Fe:=vBh (bg p ts.length) (gs.length:Int) (atC p gs) ts (pfR p gs) (mfR p) meR k
theorem EQ (h:¬vqR p gs ts k=0):vBR p gs ts k=[]:=if_neg h
theorem Em (h:¬vkR p gs ts=0):vqR p gs ts k=vkR p gs ts:=qK h
theorem wR (h:vkR p gs ts=0) (hk:¬(0≤k∧k≤6)):vqR p gs ts k=2:=by unfold vqR;rw[h,Qx hk];rfl
theorem wt (h:vkR p gs ts=0) (hk:0≤k∧k≤6):vqR p gs ts k=0:=by unfold vqR;rw[h,Qy hk];rfl
theorem Cg (h:vkR p gs ts=0) (hk:0≤k∧k≤6) (hT:bw (gs.length:Int) (atC p gs) ts (aR (pfR p gs) ts)=some R):vBR p gs ts k=bhL R (mfR p) ts (aR (pfR p gs) ts) k:=(if_pos (wt h hk)).trans (by rw[hT])
theorem Ao (R:List Rw) (F:List Fe) (j:Nat):clF R F (j+1)=bu (clF R F j) R (du R (clF R F j) ((j:Int)+1)).1:=by
 rw[clF,nR]
theorem Fx (R:List Rw) (mf:Fe→Th→Fe) (ts:List Th) (F:List Fe):bhL R mf ts F 6=kM mf ts (clF R F 5):=if_pos rfl
theorem Fg (R:List Rw) (mf:Fe→Th→Fe) (ts:List Th) (F:List Fe) (j:Nat) (h:¬(j:Int)=6):bhL R mf ts F (j:Int)=clF R F j:=by
 unfold bhL
 rw[if_neg h,Int.toNat_natCast]
theorem sX {me:Th→Int}:∀ {ts:List Th},mkE me ts=0→∀ t∈ts,t.place=4→me t=0
 | [],_,t,ht,_=>by cases ht
 | a :: l,h,t,ht,h4=>by
  by_cases q:a.place=4∧me a≠0
  ·rw[AC q.1 q.2] at h;exact absurd h q.2
  ·rw[qR q] at h
   rcases List.mem_cons.1 ht with e | e
   ·subst e
    exact Decidable.byContradiction fun z=>q ⟨h4,z⟩
   ·exact sX h t e h4
theorem wE (h:vkR p gs ts=0):p.shut=true∧ts.length≤2048∧(∃ R,Tab (gs.length:Int) (atC p gs) ts (aR (pfR p gs) ts) R)∧∀ t∈ts,t.place=4→dI t.m0 t.m1 t.m2 t.m3=true:=by
 unfold vkR at h
 obtain⟨h1,h2,h3⟩:=rD h
 have h4:ts.length≤2048∧p.shut=true:=by
  unfold bg at h1
  split at h1
  ·cases h1
  ·split at h1
   ·exact⟨by omega,by assumption⟩
   ·cases h1
 rw[List.take_of_length_le h4.1] at h2
 refine⟨h4.2,h4.1,h2,fun t ht q=>?_⟩
 have h5:=sX h3 t ht q
 unfold meR at h5
 split at h5
 ·assumption
 ·cases h5
def BhP (w:World) (p:Pl) (gs:List Ent) (ts:List Th) (k:Int) (e:Ending) (w':World):Prop:=∃ v,e=.returned (.tuple #[v,.int .i64 (vqR p gs ts k)])∧w.grownBy w' none∧aQ w' w.heap.size v (vBR p gs ts k)
theorem BhP.no (h:vqR p gs ts k=q) (hq:q≠0) (g:w.grownBy w' none):BhP w p gs ts k (.returned (.tuple #[.slice none 0 0,.int .i64 q])) w':=⟨_,by rw[h],g,by rw[EQ (by rw[h];exact hq)];exact az.Own.nil _ _ _ _⟩
theorem jw (ok:Nat→Prop) (r:Nat) (vr:Value) (p:Pl) (gs:List Ent) (v:Value) (ts:List Th) (k:Int) (w:World) (B:RD ok w r vr p gs) (A:thR.At w v ts) (hc:RgC (atC p gs)):Calls Tryz.prog 35 #[.pointer (some ⟨r,0,none⟩),v,.int .i64 k] w (BhP w p gs ts k):=by
 have C1:=kA ok r vr p gs v ts w B A hc
 unfold StP at C1
 have HB:Hid (RD ok w r vr p gs∧thR.At w v ts∧RgC (atC p gs)):=⟨B,A,hc⟩
 obtain⟨x,hx⟩:=Qe (vkR p gs ts)
 have HX:Hid (x=vkR p gs ts):=hx
 rw[←hx] at C1
 clear A B hc hx
 go_enter Tryz.func35,Tryz.ntmps35
 go_wp2_with fail
 refine C1.mono ?_
 rintro e1 w1 ⟨v1,rfl,g1,h0,h1⟩
 have HG1:Hid (w.grownBy w1 none):=g1
 by_cases hx:x=0
 ·have HO:Hid (aQ w1 w.heap.size v1 (aR (pfR p gs) ts)):=h1 hx
  have HV:Hid (vkR p gs ts=0):=HX.out.symm.trans hx
  subst hx
  clear C1 g1 h0 h1
  obtain⟨hs,hl,⟨R,hT⟩,ho⟩:=wE HV.out
  have HT:Hid (Tab (gs.length:Int) (atC p gs) ts (aR (pfR p gs) ts) R∧p.shut=true∧ts.length≤2048∧∀ t∈ts,t.place=4→dI t.m0 t.m1 t.m2 t.m3=true):=⟨hT,hs,hl,ho⟩
  have HAll:Hid (∀ X vf (j:Nat),w.grownBy X none→j<5→feR.At X vf (clF R (aR (pfR p gs) ts) j)→Calls Tryz.prog 16 #[.pointer (some ⟨r,0,none⟩),v,vf,.int .i64 ((j:Int)+1)] X (fG X (bg p ts.length) (gs.length:Int) (atC p gs) ts (clF R (aR (pfR p gs) ts) j) ((j:Int)+1))):=fun X vf j g hj F=>sk ok r vr p gs v vf ts _ _ X (HB.out.1.keep g) (HB.out.2.1.keep g) F (tw HT.out.1 HB.out.2.2 (qx HB.out.2.2 ts) j).tr
  have HMk:Hid (∀ X vf,w.grownBy X none→feR.At X vf (clF R (aR (pfR p gs) ts) 5)→Calls Tryz.prog 93 #[.pointer (some ⟨r,0,none⟩),v,vf] X fun e w'=>∃ v',e=.returned v'∧aQ w' X.heap.size v' (kM (mfR p) ts (clF R (aR (pfR p gs) ts) 5))∧X.grownBy w' none):=fun X vf g F=>pj ok r vr p gs v vf ts _ X (HB.out.1.keep g) (HB.out.2.1.keep g) F (by rw[ix,eQ]) HT.out.2.2.1 (tw HT.out.1 HB.out.2.2 (qx HB.out.2.2 ts) 5) HT.out.2.2.2
  clear hs hl hT ho
  by_cases k1:k<0
  ·have d1:decide (k<0)=true:=Qy k1
   have HE:Hid (vqR p gs ts k=2):=wR HV.out (by omega)
   go_wp2_with fail
   go_ret2
   exact BhP.no HE.out (by decide) HG1.out
  ·have d1:decide (k<0)=false:=Qx k1
   by_cases k2:6<k
   ·have d2:decide (6<k)=true:=Qy k2
    have HE:Hid (vqR p gs ts k=2):=wR HV.out (by omega)
    go_wp2_with fail
    go_ret2
    exact BhP.no HE.out (by decide) HG1.out
   ·have d2:decide (6<k)=false:=Qx k2
    have HK:Hid (0≤k∧k≤6):=⟨by omega,by omega⟩
    go_wp2_with fail
    clear d1 d2 k1 k2
    go_loopw [8,10] (fun f n wr=>∃ (j:Nat),n=.int .i64 ((j:Int)+1)∧Hid (j≤5∧(j:Int)≤k∧aQ wr w.heap.size f (clF R (aR (pfR p gs) ts) j)∧w.grownBy wr none)) (fun _ n _=>7 - (intOf n).toNat)
    case atStart=>exact⟨0,rfl,Q0 _,HK.out.1,HO.out,HG1.out⟩
    case round =>
     obtain⟨j,rfl,HJ⟩:=hrel
     obtain⟨U,hU⟩:=Qe (wr)
     subst hU
     by_cases j1:(j:Int)+1≤k
     ·by_cases j2:(j:Int)+1≤5
      ·have d1:decide ((j:Int)+1≤k)=true:=Qy j1
       have d2:decide ((j:Int)+1≤5)=true:=Qy j2
       have Hj:Hid ((j:Int)+1≤k∧j<5):=⟨j1,by omega⟩
       have C2:=HAll.out U _ j HJ.out.2.2.2 (by omega) (az.Own.at HJ.out.2.2.1)
       unfold fG at C2
       have hwk:wrap64 ((j:Int)+1+1)=(j:Int)+1+1:=by unfold wrap64;omega
       go_wp2_with fail
       refine C2.mono ?_
       rintro e2 w2 ⟨p2,m2,c2,p3,m3,c3,rfl,g2,-,q⟩
       have HN:Hid (aQ w2 w.heap.size (.slice p2 m2 c2) (clF R (aR (pfR p gs) ts) (j+1))∧w.grownBy w2 none):=by
        have z:=(q R (lK HT.out.2.2.1 HT.out.2.1) ⟨by omega,by omega⟩ (HT.out.1.cl j).tab).1
        rw[Ao]
        exact⟨aP z HJ.out.2.2.2.size,ae HJ.out.2.2.2 g2⟩
       clear C2 g2 q d1 d2 j1 j2
       go_wp2_with fail
       go_roundw
       case rel =>
        have hc:((j+1:Nat):Int)=(j:Int)+1:=by omega
        exact⟨j+1,by rw[hc];first | rfl | (rw[hwk];rfl) | go_num,Hj.out.2,by have:=Hj.out.1;omega,HN.out.1,HN.out.2⟩
       case measure =>
        have hj5:=Hj.out.2
        first | (show 7 - ((j:Int)+1+1).toNat<7 - ((j:Int)+1).toNat;omega) | (rw[hwk];show 7 - ((j:Int)+1+1).toNat<7 - ((j:Int)+1).toNat;omega)
      ·have d1:decide ((j:Int)+1≤k)=true:=Qy j1
       have d2:decide ((j:Int)+1≤5)=false:=Qx j2
       have k6:k=6:=by have:=HJ.out.1;have:=HK.out.2;omega
       have j5:j=5:=by have:=HJ.out.1;omega
       have d3:(k == 6)=true:=by rw[k6];rfl
       have C2:=HMk.out U _ HJ.out.2.2.2 (by have z:=az.Own.at HJ.out.2.2.1;rw[j5] at z;exact z)
       have HL:Hid (vBR p gs ts k=kM (mfR p) ts (clF R (aR (pfR p gs) ts) 5)∧vqR p gs ts k=0):=⟨by rw[Cg HV.out HK.out HT.out.1.tab,k6,Fx],wt HV.out HK.out⟩
       clear j1 j2 k6 j5
       go_wp2_with fail
       refine C2.mono ?_
       rintro e2 w2 ⟨v2,rfl,o2,g2⟩
       have HN:Hid (aQ w2 w.heap.size v2 (kM (mfR p) ts (clF R (aR (pfR p gs) ts) 5))∧w.grownBy w2 none):=⟨aP o2 HJ.out.2.2.2.size,ae HJ.out.2.2.2 g2⟩
       clear C2 g2 o2 d1 d2
       go_wp2_with fail
       go_ret2
       exact⟨_,by rw[HL.out.2];rfl,HN.out.2,by rw[HL.out.1];exact HN.out.1⟩

     ·have d1:decide ((j:Int)+1≤k)=false:=Qx j1
      have kj:k=(j:Int):=by have:=HJ.out.2.1;omega
      by_cases j5:k=6
      ·have:=HJ.out.1;omega
      ·have d3:(k == 6)=false:=by simpa using j5
       have HL:Hid (vBR p gs ts k=clF R (aR (pfR p gs) ts) j∧vqR p gs ts k=0):=⟨by rw[Cg HV.out HK.out HT.out.1.tab,kj,Fg _ _ _ _ _ (by rw[←kj];exact j5)],wt HV.out HK.out⟩
       clear j1 kj j5
       go_wp2_with fail
       go_ret2
       exact⟨_,by rw[HL.out.2];rfl,HJ.out.2.2.2,by rw[HL.out.1];exact HJ.out.2.2.1⟩
 ·have ex:(x != 0)=true:=by simpa using hx
  have HE:Hid (vqR p gs ts k=x∧x≠0):=⟨by rw[Em (by rw[←HX.out];exact hx),HX.out],hx⟩
  obtain rfl:=h0 hx
  clear C1 g1 h0 h1 hx
  go_wp2_with fail
  go_ret2
  exact BhP.no HE.out.1 HE.out.2 HG1.out
theorem zD (ok:Nat→Prop) (r:Nat) (vr:Value) (p:Pl) (gs:List Ent) (v:Value) (ts:List Th) (w:World) (B:RD ok w r vr p gs) (A:thR.At w v ts) (hc:RgC (atC p gs)):Calls Tryz.prog 34 #[.pointer (some ⟨r,0,none⟩),v] w (BhP w p gs ts 6):=by
 have C1:=jw ok r vr p gs v ts 6 w B A hc
 clear A B hc
 go_enter Tryz.func34,Tryz.ntmps34
 go_wp2_with fail
 refine C1.mono ?_
 rintro e1 w1 ⟨v1,rfl,h⟩
 go_wp2_with fail
 go_ret2
 exact⟨_,rfl,h⟩

def iX (w:World) (bp:Option Addr) (vt:Value) (r n:Int) (cd:Int→Hd×List Pt) (ts:List Th) (pf:Th→Fe) (me:Th→Int) (e:Ending) (w':World):Prop:=∃ bq p1 m1 c1 p2 m2 c2,e=.returned (.tuple #[.agg #[.pointer bq,.slice p1 m1 c1,.slice p2 m2 c2],.int .i64 (vkE r n cd ts (aR pf (ts.take 2048)) me)])∧w.grownBy w' none∧(vkE r n cd ts (aR pf (ts.take 2048)) me=0→bq=bp∧vt=.slice p1 m1 c1∧aQ w' w.heap.size (.slice p2 m2 c2) (aR pf ts))
theorem iX.no (h:vkE r n cd ts (aR pf (ts.take 2048)) me=q) (hq:q≠0) (g:w.grownBy w' none):iX w bp vt r n cd ts pf me (.returned (.tuple #[.agg #[.pointer none,.slice none 0 0,.slice none 0 0],.int .i64 q])) w':=⟨none,none,0,0,none,0,0,by rw[h],g,fun z=>absurd (h.symm.trans z) hq⟩
theorem rB (h:ScB w g none (.slice none 0 0) (.slice none 0 0)):w.cell? ⟨g,0,none⟩=some (.pointer none)∧w.cell? ⟨g,1,none⟩=some (.slice none 0 0)∧w.cell? ⟨g,2,none⟩=some (.slice none 0 0):=eo h
theorem jS (h:w.grownBy w' none) (hg:w.heap.size≤g) (a b c:Value):w.grownBy (((w'.setCell ⟨g,0,none⟩ a).setCell ⟨g,1,none⟩ b).setCell ⟨g,2,none⟩ c) none:=by
 have k:∀ {v:World} (i:Nat) (x:Value),w.grownBy v none→w.grownBy (v.setCell ⟨g,i,none⟩ x) none:=fun i x q=>ar q (aj _ _ _ _) (fun y e=>by cases e;exact hg)
 exact k 2 c (k 1 b (k 0 a h))
theorem Bn (a b c:Value):w.grownBy (((w.setCell ⟨g,0,none⟩ a).setCell ⟨g,1,none⟩ b).setCell ⟨g,2,none⟩ c) (some g):=ae (ae (aj _ _ _ _) (aj _ _ _ _)) (aj _ _ _ _)
theorem EB:∀ {ts:List Th} {k:Nat} (hk:k<ts.length),mkE me (ts.drop k)=if ts[k].place=4∧me ts[k]≠0 then me ts[k] else mkE me (ts.drop (k+1)):=fun {ts k} hk=>by
 rw[List.drop_eq_getElem_cons hk,mkE]
theorem kX (bp:Option Addr) (vt:Value) (r n:Int) (cd:Int→Hd×List Pt) (ts:List Th) (pf:Th→Fe) (mf:Fe→Th→Fe) (me:Th→Int) (w:World) (I:VIn w (.pointer bp) vt r n cd ts pf mf me):Calls Tryz.prog 87 #[.pointer bp,vt] w (iX w bp vt r n cd ts pf me):=by
 obtain⟨pt,ct,rfl,hcap⟩:=I.cap
 obtain⟨W1,hW1⟩:=Qe (w.alloc (.cells #[.pointer none,.slice none 0 0,.slice none 0 0] 159))
 have HG1:Hid (w.grownBy W1 none):=by rw[hW1];exact QG
 have HR:Hid (ScB W1 w.heap.size none (.slice none 0 0) (.slice none 0 0)):=by rw[hW1];exact ak w _ _
 have HI:Hid (VIn W1 (.pointer bp) (.slice pt ts.length ct) r n cd ts pf mf me):=I.keep HG1.out
 have HL:Hid (ts.length≤maxLen):=by obtain⟨_,_,_,q,_⟩:=I.th;exact q
 obtain⟨m,hm⟩:∃ m:Nat,m=min ts.length 2048:=⟨_,rfl⟩
 have hmin:min (ts.length:Int) 2048=(m:Int):=by omega
 have hmt:(ts.take 2048).length=m:=by rw[List.length_take];omega
 have htk:ts.take 2048=ts.take m:=by
  rw[hm]
  by_cases q:ts.length≤2048
  ·rw[Nat.min_eq_left q,List.take_of_length_le q,List.take_of_length_le (Qj _)]
  ·rw[Nat.min_eq_right (by omega)]
 have C1:=qC (.pointer bp) (.slice pt m ct) (ts.take 2048) pf W1 (by rw[htk];exact HI.out.th.take m (by omega)) (by rw[hmt];omega) HI.out.pr
 have Hm:Hid (m=min ts.length 2048∧(ts.take 2048).length=m):=⟨hm,hmt⟩
 have m0:(0:Int)≤(m:Int):=by omega
 have m1:(m:Int)≤(ct:Int):=by omega
 have m2:m≤ct:=by omega
 clear I hm hmt htk hcap
 go_enter Tryz.func87,Tryz.ntmps87
 go_upto_region 1 with fail
 rw[←hW1]
 clear hW1
 obtain⟨n0,h0⟩:=Qe (w.heap.size)
 have Hn0:Hid (w.heap.size≤n0∧n0<W1.heap.size):=⟨by rw[h0];exact Qj _,by rw[h0];exact aZ HR.out⟩
 simp only[←h0] at HR ⊢
 clear h0
 go_wp2_with fail
 refine C1.mono ?_
 rintro e2 w2 ⟨v2,rfl,o2,g2⟩
 obtain⟨p2,c2,rfl⟩:=az.Own.form o2
 obtain⟨fs,hfs⟩:=Qe (aR pf (ts.take 2048))
 have Hfs:Hid (fs=aR pf (ts.take 2048)):=hfs
 rw[←hfs] at o2 ⊢
 have hfl:fs.length=m:=by rw[hfs,eQ];exact Hm.out.2
 have HG2:Hid (W1.grownBy w2 none):=g2
 have HO2:Hid (aQ w2 W1.heap.size (.slice p2 fs.length c2) fs):=o2
 have C2:=qL _ _ _ r n cd ts fs 5 w2 (HI.out.li w2 _ fs g2 (az.Own.at o2) (by have:=Hm.out.1;omega))
 unfold eD at C2
 clear C1 g2 o2 hfs hfl
 go_wp2_with fail
 refine C2.mono ?_
 rintro e3 w3 ⟨p3,m3,c3,rfl,g3,-,-⟩
 have HG3:Hid (W1.grownBy w3 none):=ae HG2.out g3
 have HO3:Hid (aQ w3 W1.heap.size (.slice p2 fs.length c2) fs):=aw HO2.out g3
 have HR3:Hid (ScB w3 n0 none (.slice none 0 0) (.slice none 0 0)):=ag HG3.out HR.out (by simp)
 obtain⟨q,hq⟩:=Qe (bgE r n cd ts fs 5)
 rw[←hq]
 clear C2 g3 HO2 HG2
 by_cases hq0:q=0
 ·have e1:(q != 0)=false:=by simpa using hq0
  obtain⟨hr0,-⟩:=xN (hq.symm.trans hq0)
  have HV:Hid (vkE r n cd ts fs me=mkE me ts):=mE (hq.symm.trans hq0)
  have Hts:Hid (ts.length≤2048):=HI.out.few hr0
  clear hq hr0
  go_wp2_with fail
  go_loopw [10,11,12,33] (fun _ _ _ i wr=>∃ k:Nat,k≤ts.length∧i=.int .i64 (k:Int)∧Hid (mkE me ts=mkE me (ts.drop k))∧Hid (W1.grownBy wr none)∧Hid (aQ wr W1.heap.size (.slice p2 fs.length c2) fs)) (fun _ _ _ i _=>ts.length - (intOf i).toNat)
  case atStart=>exact⟨0,Q0 _,rfl,rfl,HG3.out,HO3.out⟩
  case round =>
   obtain⟨k,hk,rfl,HK,HG,HO⟩:=hrel
   obtain⟨U,hU⟩:=Qe (wr)
   subst hU
   clear HG3 HO3 HR3
   by_cases hlt:k<ts.length
   ·obtain⟨g,off,cap,ee,R⟩:=bO (HI.out.th.keep HG.out) hlt
    cases ee
    obtain⟨t,ht⟩:=Qe (ts[k])
    rw[←ht] at R
    have HKn:Hid (mkE me ts=if t.place=4∧me t≠0 then me t else mkE me (ts.drop (k+1))):=by show _=_;rw[HK.out,EB hlt,←ht]
    obtain⟨c0,c1,c2',c3',c4,c5,c6,c7,c8,c9,c10⟩:=bz R
    obtain⟨Y,hY⟩:=Qe (U.alloc (.cells #[.int .i64 t.card,.int .i64 t.owner,.int .u8 t.place,.int .i64 t.stamp,.int .i64 t.hurt,.int .i64 t.m0,.int .i64 t.m1,.int .i64 t.m2,.int .i64 t.m3,.int .i64 t.done,.bool t.fresh] 120))
    have HGY:Hid (U.grownBy Y none):=by rw[hY];exact QG
    have HBx:Hid (ThB Y U.heap.size t):=by rw[hY];exact ak _ _ _
    have HG1Y:Hid (W1.grownBy Y none):=ae HG.out HGY.out
    have HOY:Hid (aQ Y W1.heap.size (.slice p2 fs.length c2) fs):=aw HO.out HGY.out
    have hlt':(k:Int)<ts.length:=Int.ofNat_lt.2 hlt
    have hwk:=aK (k:=k) (Ql (Nat.le_of_lt hlt) (Ql Hts.out (by decide)))
    have Hlt:Hid (k<ts.length):=hlt
    have HM:Hid (ts.length - (intOf (.int .i64 ((k:Int)+1))).toNat<ts.length - (intOf (.int .i64 (k:Int))).toNat):=bj hlt
    clear R ht hlt hk HO HG HK
    go_upto_region 8 with fail
    rw[←hY]
    clear hY c0 c1 c2' c3' c4 c5 c6 c7 c8 c9 c10
    obtain⟨nb,hnb⟩:=Qe (U.heap.size)
    rw[←hnb] at HBx ⊢
    clear hnb
    obtain⟨b0,b1,b2,b3,b4,b5,b6,b7,b8,b9,b10⟩:=cW HBx.out
    by_cases hp:t.place=4
    ·have hpb:(t.place != 4)=false:=by rw[hp];rfl
     have C3:=HI.out.mkd Y Fe.none t HG1Y.out
     obtain⟨f2,hf2⟩:=Qe (mf Fe.none t)
     obtain⟨x,hx⟩:=Qe (me t)
     rw[←hf2,←hx] at C3
     unfold fev Fe.none at C3
     have HKx:Hid (mkE me ts=if x≠0 then x else mkE me (ts.drop (k+1))):=by
      show _=_
      rw[HKn.out,hx]
      by_cases z:me t=0
      ·rw[if_neg (fun y=>y.2 z),if_neg (fun y=>y z)]
      ·rw[if_pos ⟨hp,z⟩,if_pos z]
     clear hp hf2 hx HKn
     go_wp2_with fail
     refine C3.mono ?_
     rintro e4 w4 ⟨rfl,g4⟩
     obtain⟨V,hV⟩:=Qe (w4.alloc (.cells #[.int .i64 f2.ho,.int .u8 f2.su,.int .u16 f2.tr,.int .i64 f2.po,.int .i64 f2.he] 122))
     have HGV:Hid (Y.grownBy V none):=by rw[hV];exact al g4 _
     have HG1V:Hid (W1.grownBy V none):=ae HG1Y.out HGV.out
     have HOV:Hid (aQ V W1.heap.size (.slice p2 fs.length c2) fs):=aw HOY.out HGV.out
     have HRV:Hid (ScB V n0 none (.slice none 0 0) (.slice none 0 0)):=ag HG1V.out HR.out (by simp)
     clear C3 g4 b0 b1 b2 b3 b4 b5 b6 b7 b8 b9 b10 hpb
     go_upto_region 10 with fail
     rw[←hV]
     clear hV
     by_cases hx0:x=0
     ·have ex:(x != 0)=false:=by simpa using hx0
      have HKy:Hid (mkE me ts=mkE me (ts.drop (k+1))):=by show _=_;rw[HKx.out,if_neg (fun y=>y hx0)]
      clear hx0
      go_wp2_with fail
      go_roundw
      case rel=>exact⟨k+1,Hlt.out,by first | rfl | (rw[hwk];rfl) | go_num,HKy,HG1V,HOV⟩
      case measure=>first | exact HM.out | (rw[hwk];exact HM.out)
     ·have ex:(x != 0)=true:=by simpa using hx0
      have HX:Hid (vkE r n cd ts (aR pf (ts.take 2048)) me=x):=by show _=_;rw[←Hfs.out,HV.out,HKx.out,if_pos hx0]
      have Hx0:Hid (x≠0):=hx0
      obtain⟨r0,r1,r2⟩:=rB HRV.out
      have rf:=fun i=>au HRV.out i
      clear hx0
      go_wp2_with fail
      refine bodyPost_ret (v:=.tuple #[.agg #[.pointer none,.slice none 0 0,.slice none 0 0],.int .i64 x]) (by simp[results,Tryz.results87,go_sem,r0,r1,r2]) rfl (iX.no HX.out Hx0.out ?_)
      exact jS (ae HG1.out HG1V.out) Hn0.out.1 _ _ _
    ·have hpb:(t.place != 4)=true:=by simpa using hp
     have HKy:Hid (mkE me ts=mkE me (ts.drop (k+1))):=by show _=_;rw[HKn.out,if_neg (fun y=>hp y.1)]
     clear hp HKn
     go_wp2_with fail
     go_roundw
     case rel=>exact⟨k+1,Hlt.out,by first | rfl | (rw[hwk];rfl) | go_num,HKy,HG1Y,HOY⟩
     case measure=>first | exact HM.out | (rw[hwk];exact HM.out)
   ·obtain rfl:k=ts.length:=Nat.le_antisymm hk (Nat.le_of_not_lt hlt)
    have HX:Hid (vkE r n cd ts (aR pf (ts.take 2048)) me=0):=by show _=_;rw[←Hfs.out,HV.out,HK.out,List.drop_length];rfl
    have HRV:Hid (ScB U n0 none (.slice none 0 0) (.slice none 0 0)):=ag HG.out HR.out (by simp)
    have He:Hid (fs=aR pf ts):=by show _=_;rw[Hfs.out,List.take_of_length_le Hts.out]
    obtain⟨r0,r1,r2⟩:=rB HRV.out
    have rf:=fun i=>au HRV.out i
    clear hk hlt HK
    go_wp2_with fail
    refine bodyPost_ret (v:=.tuple #[.agg #[.pointer bp,.slice pt ts.length ct,.slice p2 fs.length c2],.int .i64 0]) (by simp[results,Tryz.results87,go_sem,r0,r1,r2]) rfl ⟨bp,pt,ts.length,ct,p2,fs.length,c2,by rw[HX.out],?_,fun _=>⟨rfl,rfl,?_⟩⟩
    ·exact jS (ae HG1.out HG.out) Hn0.out.1 _ _ _
    ·rw[←He.out]
     exact aP (fJ HO.out (Bn _ _ _) Hn0.out.2) HG1.out.size
 ·have e1:(q != 0)=true:=by simpa using hq0
  have HX:Hid (vkE r n cd ts (aR pf (ts.take 2048)) me=q):=by show _=_;rw[←Hfs.out,rE (by rw[←hq];exact hq0),←hq]
  have Hq0:Hid (q≠0):=hq0
  clear hq hq0
  obtain⟨r0,r1,r2⟩:=rB HR3.out
  have rf:=fun i=>au HR3.out i
  go_wp2_with fail
  refine bodyPost_ret (v:=.tuple #[.agg #[.pointer none,.slice none 0 0,.slice none 0 0],.int .i64 q]) (by simp[results,Tryz.results87,go_sem,r0,r1,r2]) rfl (iX.no HX.out Hq0.out ?_)
  exact jS (ae HG1.out HG3.out) Hn0.out.1 _ _ _
end Go.Proofs.YtjmepebbcnhalaaGreat
