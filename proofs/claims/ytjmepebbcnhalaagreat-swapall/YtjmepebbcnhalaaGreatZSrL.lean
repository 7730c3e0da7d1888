/-

-/
import Derived.Test.YtjmepebbcnhalaaGreatZSrK
namespace Go.Proofs.YtjmepebbcnhalaaGreat
open Tryz
set_option maxRecDepth 100000
set_option maxHeartbeats 8000000
open Go.RowKit Go.Shelf
variable {r n:Int} {cd:Int→Hd×List Pt} {ts:List Th} {F:List Fe} {h:Hp} {w wr w':World} {n0 n1 B k:Nat} {v u:Value} {s:Sd}

theorem Cl (e:¬bgE r n cd ts F 1=0):laE r n cd ts F h=bgE r n cd ts F 1:=if_neg e
theorem Hw (e:bgE r n cd ts F 1=0) (m:aK ts h=false):laE r n cd ts F h=2:=by unfold laE;rw[if_pos e,m];rfl
theorem nH (e:¬laE r n cd ts F h=0):el r n cd ts F h=Ss.none:=if_pos e
theorem Ab (e:laE r n cd ts F h=0) (m:cw h=true):el r n cd ts F h=Ss.none:=by unfold el;rw[if_neg (fun z=>z e),if_pos m]
theorem uy (e:laE r n cd ts F h=0) (m:¬cw h=true) (s:(decide (h.vb=1) && ke cd ts h.on)=true):el r n cd ts F h=⟨Hp.none,[],1,0⟩:=by unfold el;rw[if_neg (fun z=>z e),if_neg m,if_pos s]
theorem xT (e:laE r n cd ts F h=0) (m:¬cw h=true) (s:(decide (h.vb=1) && ke cd ts h.on)=false):el r n cd ts F h=dm cd ts F (swT r n cd ts F) h (Ss.begin h):=by unfold el;rw[if_neg (fun z=>z e),if_neg m,if_neg (by rw[s];simp)]
structure AlR (w wr:World) (n0 n1 n2 B:Nat) (v:Value) (h:Hp) (x:Ss):Prop where
 hb:HpB wr n0 h
 rb:SwB wr n1 Hp.none (.slice none 0 0) 0 0
 eb:SwB wr n2 x.af v x.go x.li
 us:aV wr B v x.us
 gr:w.grownBy wr none
 hs:B≤wr.heap.size
theorem AlR.keep {n2:Nat} {x:Ss} (H:AlR w wr n0 n1 n2 B v h x) (g:wr.grownBy w' none):AlR w w' n0 n1 n2 B v h x:=⟨ag g H.hb (by simp),ag g H.rb (by simp),ag g H.eb (by simp),aC H.us g,aa H.gr g,Ql H.hs g.size⟩
theorem Fc {a:Hp} (hf:eU ts s.wh a=true) (hn:¬gR F s a=Hp.none) (hv:a.vb=h.vb):h.vb=1∧(gR F s a).vb=1:=by
 have h19:¬s.wh.vb=19:=fun z=>hn (by
  unfold gR fX;have e:fm s (hoN F s.th) a=Hp.none:=by unfold fm;rw[if_neg (by omega),if_neg (by omega),if_neg (by omega)]
  rw[e]
  split <;> rfl)
 have hv1:a.vb=1:=(xk hf).resolve_right h19;refine⟨by rw[←hv,hv1],?_⟩;unfold gR fX at hn ⊢;split
 ·rename_i z;rw[if_pos z] at hn;exact absurd rfl hn
 ·rename_i z;rw[if_neg z] at hn;unfold fm at hn ⊢;split
  ·exact hv1
  ·split
   ·exact hv1
   ·split
    ·exact hv1
    ·rename_i q1 q2 q3;rw[if_neg q1,if_neg q2,if_neg q3] at hn;exact absurd rfl hn
theorem AlR.field {n2:Nat} {x y:Ss} (H:AlR w wr n0 n1 n2 B v h x) (h0:n0≠n2) (h1:n1≠n2) (h3:w.heap.size≤n2) (e:SwB (wr.setCell ⟨n2,k,none⟩ u) n2 y.af v y.go y.li) (hu:y.us=x.us):AlR w (wr.setCell ⟨n2,k,none⟩ u) n0 n1 n2 B v h y:=by
 have g:wr.grownBy (wr.setCell ⟨n2,k,none⟩ u) (some n2):=al _ _ _ _;exact⟨ag g H.hb (fun q=>h0 (Qa1 q)),ag g H.rb (fun q=>h1 (Qa1 q)),e,by rw[hu];exact bO H.us g H.eb (by decide),ak H.gr g (fun y e=>by cases e;exact h3),Ql H.hs g.size⟩
theorem xQ (ok:Nat→Prop) (r:Nat) (v:Value) (p:Pl) (gs:List Ent) (vt vf:Value) (ts:List Th) (F:List Fe) (h:Hp) (w:World) (I:RIn ok w r v p gs vt vf ts F):Calls prog 41 #[.pointer (some ⟨r,0,none⟩),vt,vf,hpv h] w fun e w'=>∃ p' m c,e=.returned (.tuple #[dB (el (aX p ts.length) (gs.length:Int) (atC p gs) ts F h).af (.slice p' m c) (el (aX p ts.length) (gs.length:Int) (atC p gs) ts F h).go (el (aX p ts.length) (gs.length:Int) (atC p gs) ts F h).li,.int .i64 (laE (aX p ts.length) (gs.length:Int) (atC p gs) ts F h)])∧aV w' w.heap.size (.slice p' m c) (el (aX p ts.length) (gs.length:Int) (atC p gs) ts F h).us∧w.grownBy w' none:=by
 obtain⟨pt,ct,rfl⟩:=I.th.form;obtain⟨pf,cf,rfl⟩:=I.fe.form;obtain⟨W0,hW0⟩:=Qe (w.alloc (.cells #[.int .u8 h.vb,.int .i64 h.on,.int .i64 h.ct,.int .i64 h.ho,.bool h.vn,.bool h.dr] 87));obtain⟨W1,hW1⟩:=Qe (W0.alloc (.cells #[.int .u8 0,.int .i64 0,.int .i64 0,.int .i64 0,.bool false,.bool false,.slice none 0 0,.int .i64 0,.int .i64 0] 90));have g0:w.grownBy W0 none:=by rw[hW0];exact QG
 have g1:W0.grownBy W1 none:=by rw[hW1];exact QG
 have e0:W0.heap.size=w.heap.size+1:=by rw[hW0,Qa3]
 have HG1:QH (w.grownBy W1 none):=aa g0 g1;have HH:QH (HpB W1 w.heap.size h):=ag g1 (by rw[hW0];exact aj w _ _) (by simp);have HR:QH (SwB W1 (w.heap.size+1) Hp.none (.slice none 0 0) 0 0):=by rw[←e0,hW1];exact aj _ _ _
 have HI:QH (RIn ok W1 r v p gs (.slice pt ts.length ct) (.slice pf F.length cf) ts F):=I.keep HG1.o;have C1:=l3 ok r v p gs _ _ ts F W1 HI.o.rd HI.o.th HI.o.fe HI.o.tr;rw[←Du] at C1;have hW':W1=(w.alloc (.cells #[.int .u8 h.vb,.int .i64 h.on,.int .i64 h.ct,.int .i64 h.ho,.bool h.vn,.bool h.dr] 87)).alloc (.cells #[.int .u8 0,.int .i64 0,.int .i64 0,.int .i64 0,.bool false,.bool false,.slice none 0 0,.int .i64 0,.int .i64 0] 90):=by rw[hW1,hW0]
 unfold hpv;clear I hW0 hW1 g0 g1 e0;go_enter func41,ntmps41;go_upto_region 1 with fail;rw[←hW'];clear hW';obtain⟨n0,hn0⟩:=Qe (w.heap.size);have Hn0:QH (w.heap.size≤n0):=by rw[hn0];exact Qj _
 simp only[←hn0] at HH HR ⊢;obtain⟨n1,hn1⟩:=Qe (n0+1);have Hn1:QH (w.heap.size≤n1∧n0≠n1):=⟨by have:=Hn0.o;omega,by omega⟩
 simp only[←hn1] at HR ⊢;clear hn0 hn1;obtain⟨q,hq⟩:=Qe (bgE (aX p ts.length) (gs.length:Int) (atC p gs) ts F 1);obtain⟨A,hA⟩:=Qe (el (aX p ts.length) (gs.length:Int) (atC p gs) ts F h);obtain⟨y,hy⟩:=Qe (laE (aX p ts.length) (gs.length:Int) (atC p gs) ts F h);have Hq:QH (q=bgE (aX p ts.length) (gs.length:Int) (atC p gs) ts F 1):=hq;have HA:QH (A=el (aX p ts.length) (gs.length:Int) (atC p gs) ts F h∧y=laE (aX p ts.length) (gs.length:Int) (atC p gs) ts F h):=⟨hA,hy⟩
 rw[←hq] at C1;clear hq;clear hA hy;go_wp2_with fail;refine C1.mono ?_;rintro e2 w2 ⟨rfl,g2⟩;have H2:QH (W1.grownBy w2 none):=g2;clear C1 g2;by_cases hq0:q=0
 case neg =>
  have k0:(q != 0)=true:=by simpa using hq0
  have HY:QH (y=q):=by show _=_;rw[HA.o.2,Hq.o];exact Cl (fun z=>hq0 (Hq.o.trans z))
  have HE:QH (A=Ss.none):=HA.o.1.trans (nH (fun z=>hq0 (by rw[←HA.o.2,HY.o] at z;exact z)));clear hq0;have HR1:QH (SwB w2 n1 Hp.none (.slice none 0 0) 0 0∧w.grownBy w2 none):=⟨ag H2.o HR.o (by simp),aa HG1.o H2.o⟩
  go_wp2_with (refine wpList_store_row rfl 90 (.tmp 8) (.tmp 21) rfl n1 (swa Hp.none (.slice none 0 0) 0 0) rfl rfl 90 _ HR1.o.1 (by kernel_rfl) rfl (by simp[swa,Value.oneCell',Hp.none]) ?_)
  obtain⟨Wr,hWr⟩:=Qe (w2.setRow n1 (swa Hp.none (.slice none 0 0) 0 0));have HWr:QH (SwB Wr n1 Hp.none (.slice none 0 0) 0 0∧w2.grownBy Wr (some n1)):=⟨by rw[hWr];exact dL w2 n1 _ _ _ _ _ _ _ _ HR1.o.1,by rw[hWr];exact az _ _ _⟩
  rw[←hWr];clear hWr;obtain⟨r0,r1,r2,r3,r4,r5,r6,r7,r8⟩:=bt HWr.o.1;refine bodyPost_ret (v:=.tuple #[dB Hp.none (.slice none 0 0) 0 0,.int .i64 q]) (by simp[results,results41,go_sem,dB,Hp.none,r0,r1,r2,r3,r4,r5,r6,r7,r8]) rfl ⟨none,0,0,by rw[←HA.o.1,←HA.o.2,HE.o,HY.o];rfl,by rw[←HA.o.1,HE.o];exact aB.Own.nil _ _ _ _,ak HR1.o.2 HWr.o.2 (fun y e=>by cases e;exact Hn1.o.1)⟩
 case pos =>
  have k0:(q != 0)=false:=by rw[hq0];rfl
  have hbg:=Hq.o.symm.trans hq0;obtain⟨R,hR,hI⟩:=HI.o.sw hbg;have HBG:QH (bgE (aX p ts.length) (gs.length:Int) (atC p gs) ts F 1=0):=hbg;have HTb:QH (swT (aX p ts.length) (gs.length:Int) (atC p gs) ts F=swL R F∧Tab (gs.length:Int) (atC p gs) ts F R∧kp (atC p gs)∧ts.length≤2048∧p.shut=true∧(swL R F).length≤64):=⟨kl hbg hR,hI.tab,hI.good,hI.few,hI.shut,D5 hI.tab hI.rd.four⟩
  have HAt:QH (∀ (j:Nat) t,ts[j]?=some t→atX p gs t.card=0):=fun j t ht=>hI.at0 ht;have C2:=jY (.slice pt ts.length ct) ts h w2 (HI.o.th.keep H2.o) hI.few;unfold hpv at C2;clear hbg hR hI;obtain⟨x0,x1,x2,x3,x4,x5⟩:=aJ (ag H2.o HH.o (by simp));go_wp2_with fail;refine C2.mono ?_;rintro e3 w3 ⟨rfl,g3⟩;have H3:QH (W1.grownBy w3 none):=aa H2.o g3;clear C2 g3 x0 x1 x2 x3 x4 x5;cases hm:aK ts h with
  | false =>
   have HY:QH (y=2):=HA.o.2.trans (Hw HBG.o hm);have HE:QH (A=Ss.none):=HA.o.1.trans (nH (fun z=>by rw[←HA.o.2,HY.o] at z;cases z));clear hm;have HR1:QH (SwB w3 n1 Hp.none (.slice none 0 0) 0 0∧w.grownBy w3 none):=⟨ag H3.o HR.o (by simp),aa HG1.o H3.o⟩
   go_wp2_with (refine wpList_store_row rfl 90 (.tmp 8) (.tmp 27) rfl n1 (swa Hp.none (.slice none 0 0) 0 0) rfl rfl 90 _ HR1.o.1 (by kernel_rfl) rfl (by simp[swa,Value.oneCell',Hp.none]) ?_)
   obtain⟨Wr,hWr⟩:=Qe (w3.setRow n1 (swa Hp.none (.slice none 0 0) 0 0));have HWr:QH (SwB Wr n1 Hp.none (.slice none 0 0) 0 0∧w3.grownBy Wr (some n1)):=⟨by rw[hWr];exact dL w3 n1 _ _ _ _ _ _ _ _ HR1.o.1,by rw[hWr];exact az _ _ _⟩
   rw[←hWr];clear hWr;obtain⟨r0,r1,r2,r3,r4,r5,r6,r7,r8⟩:=bt HWr.o.1;refine bodyPost_ret (v:=.tuple #[dB Hp.none (.slice none 0 0) 0 0,.int .i64 2]) (by simp[results,results41,go_sem,dB,Hp.none,r0,r1,r2,r3,r4,r5,r6,r7,r8]) rfl ⟨none,0,0,by rw[←HA.o.1,←HA.o.2,HE.o,HY.o];rfl,by rw[←HA.o.1,HE.o];exact aB.Own.nil _ _ _ _,ak HR1.o.2 HWr.o.2 (fun y e=>by cases e;exact Hn1.o.1)⟩
  | true =>
   have HM:QH (aK ts h=true):=hm;have HLa:QH (laE (aX p ts.length) (gs.length:Int) (atC p gs) ts F h=0):=xK ⟨HBG.o,hm⟩;have HY:QH (y=0):=HA.o.2.trans HLa.o;clear hm;obtain⟨x0,x1,x2,x3,x4,x5⟩:=aJ (ag H3.o HH.o (by simp));by_cases hnh:cw h=true
   ·have HE:QH (A=Ss.none):=HA.o.1.trans (Ab HLa.o hnh);have hh:h.vb=1∧h.ct<1:=(by unfold cw at hnh;simpa using hnh);have d1:(h.vb == 1)=true:=(by rw[hh.1];rfl);have d2:decide (h.ct<1)=true:=Qy hh.2;clear hnh hh;have HR1:QH (SwB w3 n1 Hp.none (.slice none 0 0) 0 0∧w.grownBy w3 none):=⟨ag H3.o HR.o (by simp),aa HG1.o H3.o⟩
    go_wp2_with (refine wpList_store_row rfl 90 (.tmp 8) (.tmp 36) rfl n1 (swa Hp.none (.slice none 0 0) 0 0) rfl rfl 90 _ HR1.o.1 (by kernel_rfl) rfl (by simp[swa,Value.oneCell',Hp.none]) ?_)
    obtain⟨Wr,hWr⟩:=Qe (w3.setRow n1 (swa Hp.none (.slice none 0 0) 0 0));have HWr:QH (SwB Wr n1 Hp.none (.slice none 0 0) 0 0∧w3.grownBy Wr (some n1)):=⟨by rw[hWr];exact dL w3 n1 _ _ _ _ _ _ _ _ HR1.o.1,by rw[hWr];exact az _ _ _⟩
    rw[←hWr];clear hWr;obtain⟨r0,r1,r2,r3,r4,r5,r6,r7,r8⟩:=bt HWr.o.1;refine bodyPost_ret (v:=.tuple #[dB Hp.none (.slice none 0 0) 0 0,.int .i64 0]) (by simp[results,results41,go_sem,dB,Hp.none,r0,r1,r2,r3,r4,r5,r6,r7,r8]) rfl ⟨none,0,0,by rw[←HA.o.1,←HA.o.2,HE.o,HY.o];rfl,by rw[←HA.o.1,HE.o];exact aB.Own.nil _ _ _ _,ak HR1.o.2 HWr.o.2 (fun y e=>by cases e;exact Hn1.o.1)⟩
   have HNh:QH (¬cw h=true):=hnh;obtain⟨sh,hsh⟩:=Qe ((decide (h.vb=1) && ke (atC p gs) ts h.on));have Hsh:QH (sh=(decide (h.vb=1) && ke (atC p gs) ts h.on)):=hsh;clear hsh hnh;go_upto_region 6 with fail;go_cut [35] from 28 to 35 (fun b wc=>b=.bool false∧wc=w3)
   case first =>
    by_cases v1:h.vb=1
    ·have d1:(h.vb == 1)=true:=(by rw[v1];rfl);have d2:decide (h.ct<1)=false:=(by rw[decide_eq_false_iff_not];intro z;exact HNh.o (by unfold cw;rw[Qy v1,Qy z];rfl));clear v1;go_wp2_with fail;go_meet
     case rel=>exact⟨rfl,rfl⟩
    ·have d1:(h.vb == 1)=false:=(by simpa using v1);clear v1;go_wp2_with fail;go_meet
     case rel=>exact⟨rfl,rfl⟩
   case rest =>
   obtain⟨rfl,rfl⟩:=hcut;go_upto_region 8 with fail;go_cut [65] from 37 to 65 (fun b wc=>b=.bool sh∧W1.grownBy wc none)
   case first =>
    by_cases v1:h.vb=1
    case neg =>
     have d1:(h.vb == 1)=false:=(by simpa using v1);have HE:QH (sh=false):=(by show _=_;rw[Hsh.o,Qx v1];rfl);clear v1;go_wp2_with fail;go_meet
     case rel=>exact⟨by rw[HE.o] <;> rfl,H3.o⟩
    have d1:(h.vb == 1)=true:=(by rw[v1];rfl);have hon:=(nK HM.o).1;by_cases v2:0<h.on
    case neg =>
     have d2:decide (0<h.on)=false:=Qx v2
     have HE:QH (sh=false):=by
      show _=_;rw[Hsh.o];unfold ke
      rcases hon with z | z
      ·rw[z];simp
      ·obtain⟨j,t,e,-⟩:=kS z;omega
     clear v1 v2 hon;go_wp2_with fail;go_meet
     case rel=>exact⟨by rw[HE.o] <;> rfl,H3.o⟩
    have d2:decide (0<h.on)=true:=Qy v2
    have hnp:cg h.on=false:=by
     cases z:cg h.on with
     | false=>rfl
     | true=>unfold cg at z;simp only[Bool.or_eq_true,decide_eq_true_eq] at z;omega
    obtain⟨j,t,hj,ht,h4⟩:=kS (hon.resolve_left (by rw[hnp];simp));have hjl:j<ts.length:=(Qh ht).1;obtain⟨kd,hkd⟩:=Qe ((atC p gs t.card).1.kd);have CU:=mc ok r v p gs t _ (HI.o.rd.keep H3.o);rw[show unB (atC p gs t.card).1 (atX p gs t.card) t=decide (kd=1) from by unfold unB;rw[HAt.o j t ht,Qy h4,hkd];simp] at CU
    have HSh:QH (sh=(decide (kd=1) && decide (0<t.m2))):=by
     show _=_;rw[Hsh.o,Qy v1];unfold ke;rw[hnp,hj,jh ht];unfold kP;rw[Qy h4,←hkd];simp
    have j0:(0:Int)≤(j:Int):=(by omega);have j1:((j:Int))<(ts.length:Int):=Int.ofNat_lt.2 hjl;have wj:wrap64 (j:Int)=(j:Int):=zq hjl HTb.o.2.2.2.1;have wj2:IntKind.i64.wrap (j:Int)=(j:Int):=AO hjl HTb.o.2.2.2.1;have HRt:QH (∀ Y,W1.grownBy Y none→thR.At Y (.slice pt ts.length ct) ts):=fun Y g=>HI.o.th.keep g;have HTt:QH (ts[j]?=some t):=ht;obtain⟨gT,oT,cT,eT,-⟩:=bz HI.o.th hjl;injection eT with eT eT2 eT3;clear eT2 eT3;subst eT;have HOn:QH (h.on=(j:Int)+1):=hj;rw[hj] at x1 d2;unfold thv at CU;clear v1 v2 hon hnp hj ht h4 hjl hkd;obtain⟨t0,t1,t2,t3,t4,t5,t6,t7,t8,t9,t10⟩:=aZ (eJ (HRt.o _ H3.o) HTt.o);go_wp2_with fail;refine CU.mono ?_;rintro e5 w5 ⟨rfl,g5⟩;have H5:QH (W1.grownBy w5 none):=aa H3.o g5;clear CU g5 t0 t1 t2 t3 t4 t5 t6 t7 t8 t9 t10;obtain⟨t0,t1,t2,t3,t4,t5,t6,t7,t8,t9,t10⟩:=aZ (eJ (HRt.o _ H5.o) HTt.o);obtain⟨x0,x1,x2,x3,x4,x5⟩:=aJ (ag H5.o HH.o (by simp));rw[HOn.o] at x1;by_cases v3:kd=1
    case neg =>
     have HE:QH (sh=false):=(by show _=_;rw[HSh.o,Qx v3];rfl);rw[Qx v3];clear v3;go_wp2_with fail;go_meet
     case rel=>exact⟨by rw[HE.o] <;> rfl,H5.o⟩
    rw[Qy v3];have HE:QH (sh=decide (0<t.m2)):=(by show _=_;rw[HSh.o,Qy v3,Qah]);clear v3;go_wp2_with fail;go_meet
    case rel=>exact⟨by rw[HE.o] <;> rfl,H5.o⟩
   case rest =>
   obtain⟨rfl,hG⟩:=hcut;obtain⟨w4,hw4⟩:=Qe (wc);subst hw4;have H4:QH (W1.grownBy w4 none):=hG;clear hG x0 x1 x2 x3 x4 x5;cases sh with
   | true =>
    have HE:QH (A=⟨Hp.none,[],1,0⟩):=HA.o.1.trans (uy HLa.o HNh.o Hsh.o.symm);have HR1:QH (SwB w4 n1 Hp.none (.slice none 0 0) 0 0∧w.grownBy w4 none):=⟨ag H4.o HR.o (by simp),aa HG1.o H4.o⟩
    go_wp2_with (refine wpList_store_row rfl 90 (.tmp 8) (.tmp 66) rfl n1 (swa Hp.none (.slice none 0 0) 1 0) rfl rfl 90 _ HR1.o.1 (by kernel_rfl) rfl (by simp[swa,Value.oneCell',Hp.none]) ?_)
    obtain⟨Wr,hWr⟩:=Qe (w4.setRow n1 (swa Hp.none (.slice none 0 0) 1 0));have HWr:QH (SwB Wr n1 Hp.none (.slice none 0 0) 1 0∧w4.grownBy Wr (some n1)):=⟨by rw[hWr];exact dL w4 n1 _ _ _ _ _ _ _ _ HR1.o.1,by rw[hWr];exact az _ _ _⟩
    rw[←hWr];clear hWr;obtain⟨r0,r1,r2,r3,r4,r5,r6,r7,r8⟩:=bt HWr.o.1;refine bodyPost_ret (v:=.tuple #[dB Hp.none (.slice none 0 0) 1 0,.int .i64 0]) (by simp[results,results41,go_sem,dB,Hp.none,r0,r1,r2,r3,r4,r5,r6,r7,r8]) rfl ⟨none,0,0,by rw[←HA.o.1,←HA.o.2,HE.o,HY.o],by rw[←HA.o.1,HE.o];exact aB.Own.nil _ _ _ _,ak HR1.o.2 HWr.o.2 (fun y e=>by cases e;exact Hn1.o.1)⟩
   | false =>
    obtain⟨L,hL⟩:=Qe (swL R F)
    have HL:QH (L.length≤64∧∀ s∈L,qr F s∧(s.wh.vb=16→1≤s.wh.ct∧s.wh.ct≤99)):=by
     rw[hL];exact⟨HTb.o.2.2.2.2.2,fun s hs=>nO HTb.o.2.1 HTb.o.2.2.1 hs⟩
    have HE:QH (A=dm (atC p gs) ts F L h (Ss.begin h)):=(by show _=_;rw[HA.o.1,xT HLa.o HNh.o Hsh.o.symm,HTb.o.1,hL]);have HNx:QH (∀ a S,aK ts a=true→ip (aX p ts.length) (gs.length:Int) (atC p gs) ts F a S=gU (atC p gs) ts F L a S):=fun a S z=>by rw[vg ⟨HBG.o,z⟩,HTb.o.1,hL]
    clear hL;obtain⟨i0,hi,hz0,hz1,hz2⟩:=info_parts linfoD;obtain⟨x0,x1,x2,x3,x4,x5⟩:=aJ (ag H4.o HH.o (by simp));obtain⟨V,hV⟩:=Qe (w4.alloc (.cells #[.int .u8 h.vb,.int .i64 h.on,.int .i64 h.ct,.int .i64 h.ho,.bool h.vn,.bool h.dr,.slice none 0 0,.int .i64 0,.int .i64 0] 90));have gV:w4.grownBy V none:=(by rw[hV];exact QG);have HQ0:QH (AlR W1 V n0 n1 w4.heap.size V.heap.size (.slice none 0 0) h (Ss.begin h)):=⟨ag (aa H4.o gV) HH.o (by simp),ag (aa H4.o gV) HR.o (by simp),by rw[hV];exact aj _ _ _,aB.Own.nil _ _ _ _,aa H4.o gV,Qj _⟩
    have HV:QH (W1.heap.size≤w4.heap.size∧w4.heap.size<V.heap.size):=⟨H4.o.size,aY HQ0.o.eb⟩
    go_upto_region 11 with fail;rw[←hV];obtain⟨n2,hn2⟩:=Qe (w4.heap.size);rw[←hn2] at HQ0 HV ⊢;obtain⟨B,hB⟩:=Qe (V.heap.size);rw[←hB] at HQ0 HV
    have Hne:QH ((n0≠n2∧n1≠n2)∧W1.heap.size≤n2∧W1.heap.size≤B∧n2<B):=by
     have a1:=aY HH.o;have a2:=aY HR.o;have a3:=HV.o;exact⟨⟨by omega,by omega⟩,by omega,by omega,by omega⟩
    clear hV hn2 hB gV HV H4 x0 x1 x2 x3 x4 x5;go_loopg [] (ci L []) (fun gk wr=>∃ (x:Ss) (pu:Option Addr) (m c:Nat),ci L x.us≤gk∧QH (AlR W1 wr n0 n1 n2 B (.slice pu m c) h x)∧QH (m=x.us.length∧m+ci L x.us≤L.length∧dm (atC p gs) ts F L h x=dm (atC p gs) ts F L h (Ss.begin h))∧QH (aK ts x.af=true∧x.go=0∧x.li=0∧x.af.vb=h.vb))
    case atStart=>exact⟨Ss.begin h,none,0,0,Qj _,HQ0.o,⟨rfl,by rw[Qa8];exact List.length_filter_le _ _,rfl⟩,HM.o,rfl,rfl,rfl⟩
    case round =>
     clear HQ0;obtain⟨x,pu,m,c,hgk,HQ,HX,Hx⟩:=hrel;obtain⟨U,hU⟩:=Qe (wr);subst hU;have Hgk:QH (ci L x.us≤gk):=hgk;clear hgk;have CN:=lV ok r v p gs (.slice pt ts.length ct) (.slice pf F.length cf) (.slice pu m c) ts F x.af x.us U (HI.o.keep HQ.o.gr) (aB.Own.at HQ.o.us);rw[HNx.o _ _ Hx.o.1] at CN;unfold hpv sdv at CN;obtain⟨y0,y1,y2,y3,y4,y5,y6,y7,y8⟩:=bt HQ.o.eb;go_wp2_with fail;refine CN.mono ?_;rintro e1 w1 ⟨rfl,g1⟩;have HQ1:QH (AlR W1 w1 n0 n1 n2 B (.slice pu m c) h x):=HQ.o.keep g1;obtain⟨N,hN⟩:=Qe (gU (atC p gs) ts F L x.af x.us);have HN:QH (gU (atC p gs) ts F L x.af x.us=N):=hN.symm;rw[←hN];obtain⟨a,ha⟩:=Qe (mA F x.af N);have Ha:QH (a=mA F x.af N):=ha;rw[←ha];obtain⟨s,hs⟩:=Qe (mK N);have Hs:QH (s=mK N):=hs;rw[←hs];obtain⟨Z,hZ⟩:=Qe ((((w1.alloc (.cells #[.int .u8 0,.int .i64 0,.int .i64 0,.int .i64 0,.bool false,.bool false] 87)).alloc (.cells #[.int .i64 0,.int .i64 0,.int .u8 0,.int .u8 0,.int .u8 0,.int .i64 0,.int .u8 0,.int .u8 0,.int .u8 0,.string ⟨#[]⟩] 64)).setRow w1.heap.size (hpa a)).setRow (w1.heap.size+1) (sda s));have b0:HpB ((w1.alloc (.cells #[.int .u8 0,.int .i64 0,.int .i64 0,.int .i64 0,.bool false,.bool false] 87)).alloc (.cells #[.int .i64 0,.int .i64 0,.int .u8 0,.int .u8 0,.int .u8 0,.int .i64 0,.int .u8 0,.int .u8 0,.int .u8 0,.string ⟨#[]⟩] 64)) w1.heap.size Hp.none:=ag QG (aj w1 _ _) (by simp);have b1:SdB ((w1.alloc (.cells #[.int .u8 0,.int .i64 0,.int .i64 0,.int .i64 0,.bool false,.bool false] 87)).alloc (.cells #[.int .i64 0,.int .i64 0,.int .u8 0,.int .u8 0,.int .u8 0,.int .i64 0,.int .u8 0,.int .u8 0,.int .u8 0,.string ⟨#[]⟩] 64)) (w1.heap.size+1) Sd.none:=aT _ _ _ _;have b2:SdB (((w1.alloc (.cells #[.int .u8 0,.int .i64 0,.int .i64 0,.int .i64 0,.bool false,.bool false] 87)).alloc (.cells #[.int .i64 0,.int .i64 0,.int .u8 0,.int .u8 0,.int .u8 0,.int .i64 0,.int .u8 0,.int .u8 0,.int .u8 0,.string ⟨#[]⟩] 64)).setRow w1.heap.size (hpa a)) (w1.heap.size+1) Sd.none:=ag (az _ _ _) b1 (fun q=>by have:=Qa1 q;omega);have HB:QH (HpB ((w1.alloc (.cells #[.int .u8 0,.int .i64 0,.int .i64 0,.int .i64 0,.bool false,.bool false] 87)).alloc (.cells #[.int .i64 0,.int .i64 0,.int .u8 0,.int .u8 0,.int .u8 0,.int .i64 0,.int .u8 0,.int .u8 0,.int .u8 0,.string ⟨#[]⟩] 64)) w1.heap.size Hp.none∧SdB (((w1.alloc (.cells #[.int .u8 0,.int .i64 0,.int .i64 0,.int .i64 0,.bool false,.bool false] 87)).alloc (.cells #[.int .i64 0,.int .i64 0,.int .u8 0,.int .u8 0,.int .u8 0,.int .i64 0,.int .u8 0,.int .u8 0,.int .u8 0,.string ⟨#[]⟩] 64)).setRow w1.heap.size (hpa a)) (w1.heap.size+1) Sd.none):=⟨b0,b2⟩
     have HZ:QH (HpB Z w1.heap.size a∧SdB Z (w1.heap.size+1) s∧w1.grownBy Z none):=by
      rw[hZ];refine⟨ag (az _ _ _) (setRow_heap _ _ _ _ _ _ b0) (fun q=>by have:=Qa1 q;omega),setRow_heap _ _ _ _ _ _ b2,?_⟩;exact ak (ak (am QG _) (az _ _ _) (fun y e=>by cases e;exact Qj _)) (az _ _ _) (fun y e=>by cases e;omega)
     clear CN g1 hN ha hs b0 b1 b2 y0 y1 y2 y3 y4 y5 y6 y7 y8 HQ;go_upto_region 12 with (first | (refine wpList_store_row rfl 87 (.tmp 12) (.tmp 78) rfl w1.heap.size (hpa a) rfl rfl 87 _ HB.o.1 (by kernel_rfl) rfl (by simp[hpa,Value.oneCell']) ?_) | (refine wpList_store_row rfl 64 (.tmp 13) (.tmp 79) rfl (w1.heap.size+1) (sda s) rfl rfl 64 _ HB.o.2 (by kernel_rfl) rfl (by simp[sda,Value.oneCell']) ?_))
     rw[←hZ];obtain⟨n6,h6⟩:=Qe (w1.heap.size);rw[←h6] at HZ ⊢;obtain⟨n7,h7⟩:=Qe (n6+1);rw[←h7] at HZ ⊢;have Hn6:QH (n6=w1.heap.size∧n7=n6+1):=⟨h6,h7⟩
     clear hZ h6 h7 HB;have HQ2:QH (AlR W1 Z n0 n1 n2 B (.slice pu m c) h x):=HQ1.o.keep HZ.o.2.2;obtain⟨y0,y1,y2,y3,y4,y5,y6,y7,y8⟩:=bt HQ2.o.eb;cases N with
     | none =>
      have HF:QH (A=x):=HE.o.trans (by rw[←HX.o.2.2];exact uZ HN.o);simp only[Option.isSome_none];have HR1:QH (SwB Z n1 Hp.none (.slice none 0 0) 0 0∧w.grownBy Z none):=⟨HQ2.o.rb,aa HG1.o HQ2.o.gr⟩
      go_wp2_with (refine wpList_store_row rfl 90 (.tmp 8) (.tmp 109) rfl n1 (swa x.af (.slice pu m c) x.go x.li) rfl rfl 90 _ HR1.o.1 (by kernel_rfl) rfl (by simp[swa,Value.oneCell']) ?_)
      obtain⟨Wr,hWr⟩:=Qe (Z.setRow n1 (swa x.af (.slice pu m c) x.go x.li));have HWr:QH (SwB Wr n1 x.af (.slice pu m c) x.go x.li∧Z.grownBy Wr (some n1)):=⟨by rw[hWr];exact dL Z n1 _ _ _ _ _ _ _ _ HR1.o.1,by rw[hWr];exact az _ _ _⟩
      rw[←hWr];clear hWr;obtain⟨r0,r1,r2,r3,r4,r5,r6,r7,r8⟩:=bt HWr.o.1;refine bodyPost_ret (v:=.tuple #[dB x.af (.slice pu m c) x.go x.li,.int .i64 0]) (by simp[results,results41,go_sem,dB,r0,r1,r2,r3,r4,r5,r6,r7,r8]) rfl ⟨pu,m,c,by rw[←HA.o.1,←HA.o.2,HF.o,HY.o],by rw[←HA.o.1,HF.o];exact bj (bO HQ2.o.us HWr.o.2 HR1.o.1 (by decide)) (Ql HG1.o.size Hne.o.2.2.1),ak HR1.o.2 HWr.o.2 (fun y e=>by cases e;exact Hn1.o.1)⟩
     | some t =>
      obtain rfl:s=t:=Hs.o;have Ha2:QH (a=gR F s x.af):=Ha.o;clear Ha Hs;simp only[Option.isSome_some];have HSt:QH (dm (atC p gs) ts F L h x=dm (atC p gs) ts F L h (x.more F h s)):=nC (Gj Hx.o.1) HN.o;have hmem:=mW HN.o;have HLt:QH (ci L (x.us++[s])<ci L x.us):=ku hmem.2.1 hmem.1
      have hfit:eU ts s.wh x.af=true:=by
       have z:=hmem.2.2;unfold i6 at z;simp only[Bool.and_eq_true] at z;exact z.2
      have HMy:QH (a=Hp.none∨(aK ts a=true∧h.vb=1∧a.vb=1)):=by
       obtain⟨⟨z,g,q1,q2,q3,q4,q5⟩,q6⟩:=HL.o.2 s hmem.1;show _∨_;rw[Ha2.o];by_cases q7:gR F s x.af=Hp.none
       ·exact Or.inl q7
       ·refine Or.inr ⟨(yF Hx.o.1 ⟨q4,q5⟩ (by rw[kb q1 q2];exact q3) hfit q6).resolve_left q7,?_⟩;exact Fc hfit q7 Hx.o.2.2.2
      have HLn:QH (m+1≤maxLen∧(m+1)*56≤140737488355328):=qF (show m≤L.length by have:=HX.o.2.1;omega) HL.o.1;have HOa:QH (Z.ownsRow B 64 10 (.slice pu m c) m (sdR.cs x.us)):=by have:=HQ2.o.us;unfold aV aB.Own at this;rw[←HX.o.1] at this;exact this
      have Hp7:QH (some n7≠(Value.slice pu m c).ownBlock∧some n6≠(Value.slice pu m c).ownBlock):=by
       have:=HQ1.o.us;unfold aV aB.Own at this;exact⟨nM (k:=n7) this (by have:=Hn6.o;omega),nM (k:=n6) this (by have:=Hn6.o;omega)⟩
      have Hn36:QH (n6≠n2∧n7≠n2):=by
       have q1:=aY HQ1.o.eb;have q2:=Hn6.o;exact⟨by omega,by omega⟩
      clear hmem hfit;obtain⟨d0,d1,d2,d3,d4,d5,d6,d7,d8,d9⟩:=aQ HZ.o.2.1;obtain⟨Q,hQ⟩:=Qe (Z.alloc (.cells (sdc s).toArray 64));have HGQ:QH (Z.grownBy Q none):=(by rw[hQ];exact QG);have HSr:QH (Src Q (.slice (some ⟨Z.heap.size,0,none⟩) 1 1) 1 10 (sdc s)):=(by rw[hQ];exact oW Z s);have HOb:QH (Q.ownsRow B 64 10 (.slice pu m c) m (sdR.cs x.us)):=aC HOa.o HGQ.o;have HQ3:QH (AlR W1 Q n0 n1 n2 B (.slice pu m c) h x∧HpB Q n6 a∧SdB Q n7 s):=⟨HQ2.o.keep HGQ.o,ag HGQ.o HZ.o.1 (by simp),ag HGQ.o HZ.o.2.1 (by simp)⟩
      unfold sdc at hQ;go_upto_region 14 with (at_builtin;rw[←hQ];refine br (by rfl) (.tmp 84) (.tmp 86) 30 rfl B 64 i0 _ 10 56 underlying30 hi hz0 hz1 hz2 rfl (by decide) (.slice pu m c) m (sdR.cs x.us) rfl HOb.o (.slice (some ⟨Z.heap.size,0,none⟩) 1 1) 1 (sdc s) rfl HSr.o (fx _) HLn.o.1 HLn.o.2 HQ3.o.1.hs ?_;intro v9 w9 o9 g9 _;have HO9:QH (aV w9 B v9 (x.us++[s])):=aB.more o9 HX.o.1;have HG9:QH (Q.grownBy w9 (Value.slice pu m c).ownBlock):=g9;clear o9 g9 y0 y1 y2 y3 y4 y5 y6 y7 y8 d0 d1 d2 d3 d4 d5 d6 d7 d8 d9;have HE9:QH (SwB w9 n2 x.af (.slice pu m c) x.go x.li):=ag HG9.o HQ3.o.1.eb (bD HOb.o HQ3.o.1.eb (by decide));obtain⟨y0,y1,y2,y3,y4,y5,y6,y7,y8⟩:=bt HE9.o;have yf:=fun i=>aq HE9.o i;obtain⟨pv,kv,hv9⟩:=aB.Own.form HO9.o;rw[Qa,Qax,←HX.o.1] at hv9;subst hv9)
      obtain⟨P,hP⟩:=Qe (w9.setCell ⟨n2,6,none⟩ (.slice pv (m+1) kv));have HGP:QH (w9.grownBy P (some n2)):=by rw[hP];exact al _ _ _ _
      have HEP:QH (SwB P n2 x.af (.slice pv (m+1) kv) x.go x.li):=by
       rw[hP];have h9:=au HE9.o 6 (.slice pv (m+1) kv);simp only[List.setIfInBounds_toArray,List.set_cons_zero,List.set_cons_succ] at h9;exact h9
      have HZP:QH (HpB P n6 a∧SdB P n7 s):=⟨ag HGP.o (ag HG9.o HQ3.o.2.1 Hp7.o.2) (fun q=>Hn36.o.1 (Qa1 q)),ag HGP.o (ag HG9.o HQ3.o.2.2 Hp7.o.1) (fun q=>Hn36.o.2 (Qa1 q))⟩
      rw[←hP];clear hP y0 y1 y2 y3 y4 y5 y6 y7 y8 yf hQ;obtain⟨Y,hY⟩:=Qe ((((((P.setCell ⟨n2,0,none⟩ (.int .u8 a.vb)).setCell ⟨n2,1,none⟩ (.int .i64 a.on)).setCell ⟨n2,2,none⟩ (.int .i64 a.ct)).setCell ⟨n2,3,none⟩ (.int .i64 a.ho)).setCell ⟨n2,4,none⟩ (.bool a.vn)).setCell ⟨n2,5,none⟩ (.bool a.dr));have HGY:QH (P.grownBy Y (some n2)):=(by rw[hY];exact aU _ _ _ _ _ _ _ _);have HEY:QH (SwB Y n2 a (.slice pv (m+1) kv) x.go x.li):=(by rw[hY];exact sg a HEP.o);obtain⟨y0,y1,y2,y3,y4,y5,y6,y7,y8⟩:=bt HEP.o;have yf:=fun i=>aq HEP.o i;obtain⟨z0,z1,z2,z3,z4,z5⟩:=aJ HZP.o.1;go_upto_region 15 with fail;rw[←hY];clear hY y0 y1 y2 y3 y4 y5 y6 y7 y8 yf z0 z1 z2 z3 z4 z5;have HG2:QH (w9.grownBy Y (some n2)):=aa HGP.o HGY.o;have HZY:QH (HpB Y n6 a∧SdB Y n7 s):=⟨ag HGY.o HZP.o.1 (fun q=>Hn36.o.1 (Qa1 q)),ag HGY.o HZP.o.2 (fun q=>Hn36.o.2 (Qa1 q))⟩
      have HQ5:QH (AlR W1 Y n0 n1 n2 B (.slice pv (m+1) kv) h ⟨a,x.us++[s],x.go,x.li⟩):=by
       refine⟨?_,?_,HEY.o,?_,?_,?_⟩
       ·exact ag HG2.o (ag HG9.o HQ3.o.1.hb (bD HOb.o HQ3.o.1.hb (by decide))) (fun q=>Hne.o.1.1 (Qa1 q))
       ·exact ag HG2.o (ag HG9.o HQ3.o.1.rb (bD HOb.o HQ3.o.1.rb (by decide))) (fun q=>Hne.o.1.2 (Qa1 q))
       ·exact bO HO9.o HG2.o HE9.o (by decide)
       ·exact ak (ak HQ3.o.1.gr HG9.o (fun y e=>Ql Hne.o.2.2.1 (Qa5 HOb.o y e).1)) HG2.o (fun y e=>by cases e;exact Hne.o.2.1)
       ·exact Ql HQ3.o.1.hs (Ql HG9.o.size HG2.o.size)
      clear HGP HEP HZP HGY HG2 HQ3 HG9 HO9 HE9 HOb HSr HGQ HOa HZ HQ2 HQ1 HEY;obtain⟨z0,z1,z2,z3,z4,z5⟩:=aJ HZY.o.1;obtain⟨d0,d1,d2,d3,d4,d5,d6,d7,d8,d9⟩:=aQ HZY.o.2;obtain⟨x0,x1,x2,x3,x4,x5⟩:=aJ HQ5.o.hb
      rcases HMy.o with hz | ⟨hz1,hz2,hz3⟩
      ·have e0:(a.vb == 0)=true:=(by rw[hz];rfl);have HF:QH (A=x.more F h s):=HE.o.trans (by rw[←HX.o.2.2,HSt.o];exact qW (by show gR F s x.af=_;rw[←Ha2.o,hz]));clear hz;obtain⟨y0,y1,y2,y3,y4,y5,y6,y7,y8⟩:=bt HQ5.o.eb;have yf:=fun i=>aq HQ5.o.eb i;by_cases v6:h.vb=6
       ·have d60:(h.vb == 6)=true:=(by rw[v6];rfl);have d30:(h.vb == 3)=false:=(by rw[v6];rfl);have HXm:QH (x.more F h s=⟨a,x.us++[s],s.wh.ct,x.li⟩):=(by show _=_;unfold Ss.more;rw[if_pos v6,if_neg (by omega),Ha2.o]);obtain⟨P2,hP2⟩:=Qe (Y.setCell ⟨n2,7,none⟩ (.int .i64 s.wh.ct))
        have HP2:QH (AlR W1 P2 n0 n1 n2 B (.slice pv (m+1) kv) h ⟨a,x.us++[s],s.wh.ct,x.li⟩):=by
         rw[hP2]
         exact HQ5.o.field Hne.o.1.1 Hne.o.1.2 Hne.o.2.1 (by
          have h9:=au HQ5.o.eb 7 (.int .i64 s.wh.ct);simp only[List.setIfInBounds_toArray,List.set_cons_zero,List.set_cons_succ] at h9
          exact h9) rfl
        clear v6;go_upto_region 18 with fail;rw[←hP2];clear hP2 x0 x1 x2 x3 x4 x5 y0 y1 y2 y3 y4 y5 y6 y7 y8 yf;obtain⟨x0,x1,x2,x3,x4,x5⟩:=aJ HP2.o.hb;obtain⟨y0,y1,y2,y3,y4,y5,y6,y7,y8⟩:=bt HP2.o.eb;have HR1:QH (SwB P2 n1 Hp.none (.slice none 0 0) 0 0∧w.grownBy P2 none):=⟨HP2.o.rb,aa HG1.o HP2.o.gr⟩
        go_wp2_with (refine wpList_store_row rfl 90 (.tmp 8) (.tmp 108) rfl n1 (swa a (.slice pv (m+1) kv) s.wh.ct x.li) rfl rfl 90 _ HR1.o.1 (by kernel_rfl) rfl (by simp[swa,Value.oneCell']) ?_)
        obtain⟨Wr,hWr⟩:=Qe (P2.setRow n1 (swa a (.slice pv (m+1) kv) s.wh.ct x.li));have HWr:QH (SwB Wr n1 a (.slice pv (m+1) kv) s.wh.ct x.li∧P2.grownBy Wr (some n1)):=⟨by rw[hWr];exact dL P2 n1 _ _ _ _ _ _ _ _ HR1.o.1,by rw[hWr];exact az _ _ _⟩
        rw[←hWr];clear hWr;obtain⟨r0,r1,r2,r3,r4,r5,r6,r7,r8⟩:=bt HWr.o.1;refine bodyPost_ret (v:=.tuple #[dB a (.slice pv (m+1) kv) s.wh.ct x.li,.int .i64 0]) (by simp[results,results41,go_sem,dB,r0,r1,r2,r3,r4,r5,r6,r7,r8]) rfl ⟨pv,m+1,kv,by rw[←HA.o.1,←HA.o.2,HF.o,HXm.o,HY.o],by rw[←HA.o.1,HF.o,HXm.o];exact bj (bO HP2.o.us HWr.o.2 HR1.o.1 (by decide)) (Ql HG1.o.size Hne.o.2.2.1),ak HR1.o.2 HWr.o.2 (fun y e=>by cases e;exact Hn1.o.1)⟩
       by_cases v3:h.vb=3
       ·have d60:(h.vb == 6)=false:=(by rw[v3];rfl);have d30:(h.vb == 3)=true:=(by rw[v3];rfl);have HXm:QH (x.more F h s=⟨a,x.us++[s],x.go,s.wh.ct⟩):=(by show _=_;unfold Ss.more;rw[if_neg v6,if_pos v3,Ha2.o]);obtain⟨P2,hP2⟩:=Qe (Y.setCell ⟨n2,8,none⟩ (.int .i64 s.wh.ct))
        have HP2:QH (AlR W1 P2 n0 n1 n2 B (.slice pv (m+1) kv) h ⟨a,x.us++[s],x.go,s.wh.ct⟩):=by
         rw[hP2]
         exact HQ5.o.field Hne.o.1.1 Hne.o.1.2 Hne.o.2.1 (by
          have h9:=au HQ5.o.eb 8 (.int .i64 s.wh.ct);simp only[List.setIfInBounds_toArray,List.set_cons_zero,List.set_cons_succ] at h9
          exact h9) rfl
        clear v6 v3;go_upto_region 20 with fail;rw[←hP2];clear hP2 x0 x1 x2 x3 x4 x5 y0 y1 y2 y3 y4 y5 y6 y7 y8 yf;obtain⟨y0,y1,y2,y3,y4,y5,y6,y7,y8⟩:=bt HP2.o.eb;have HR1:QH (SwB P2 n1 Hp.none (.slice none 0 0) 0 0∧w.grownBy P2 none):=⟨HP2.o.rb,aa HG1.o HP2.o.gr⟩
        go_wp2_with (refine wpList_store_row rfl 90 (.tmp 8) (.tmp 108) rfl n1 (swa a (.slice pv (m+1) kv) x.go s.wh.ct) rfl rfl 90 _ HR1.o.1 (by kernel_rfl) rfl (by simp[swa,Value.oneCell']) ?_)
        obtain⟨Wr,hWr⟩:=Qe (P2.setRow n1 (swa a (.slice pv (m+1) kv) x.go s.wh.ct));have HWr:QH (SwB Wr n1 a (.slice pv (m+1) kv) x.go s.wh.ct∧P2.grownBy Wr (some n1)):=⟨by rw[hWr];exact dL P2 n1 _ _ _ _ _ _ _ _ HR1.o.1,by rw[hWr];exact az _ _ _⟩
        rw[←hWr];clear hWr;obtain⟨r0,r1,r2,r3,r4,r5,r6,r7,r8⟩:=bt HWr.o.1;refine bodyPost_ret (v:=.tuple #[dB a (.slice pv (m+1) kv) x.go s.wh.ct,.int .i64 0]) (by simp[results,results41,go_sem,dB,r0,r1,r2,r3,r4,r5,r6,r7,r8]) rfl ⟨pv,m+1,kv,by rw[←HA.o.1,←HA.o.2,HF.o,HXm.o,HY.o],by rw[←HA.o.1,HF.o,HXm.o];exact bj (bO HP2.o.us HWr.o.2 HR1.o.1 (by decide)) (Ql HG1.o.size Hne.o.2.2.1),ak HR1.o.2 HWr.o.2 (fun y e=>by cases e;exact Hn1.o.1)⟩
       have d60:(h.vb == 6)=false:=(by simpa using v6);have d30:(h.vb == 3)=false:=(by simpa using v3);have HXm:QH (x.more F h s=⟨a,x.us++[s],x.go,x.li⟩):=(by show _=_;unfold Ss.more;rw[if_neg v6,if_neg v3,Ha2.o]);clear v6 v3;have HR1:QH (SwB Y n1 Hp.none (.slice none 0 0) 0 0∧w.grownBy Y none):=⟨HQ5.o.rb,aa HG1.o HQ5.o.gr⟩
       go_wp2_with (refine wpList_store_row rfl 90 (.tmp 8) (.tmp 108) rfl n1 (swa a (.slice pv (m+1) kv) x.go x.li) rfl rfl 90 _ HR1.o.1 (by kernel_rfl) rfl (by simp[swa,Value.oneCell']) ?_)
       obtain⟨Wr,hWr⟩:=Qe (Y.setRow n1 (swa a (.slice pv (m+1) kv) x.go x.li));have HWr:QH (SwB Wr n1 a (.slice pv (m+1) kv) x.go x.li∧Y.grownBy Wr (some n1)):=⟨by rw[hWr];exact dL Y n1 _ _ _ _ _ _ _ _ HR1.o.1,by rw[hWr];exact az _ _ _⟩
       rw[←hWr];clear hWr;obtain⟨r0,r1,r2,r3,r4,r5,r6,r7,r8⟩:=bt HWr.o.1;refine bodyPost_ret (v:=.tuple #[dB a (.slice pv (m+1) kv) x.go x.li,.int .i64 0]) (by simp[results,results41,go_sem,dB,r0,r1,r2,r3,r4,r5,r6,r7,r8]) rfl ⟨pv,m+1,kv,by rw[←HA.o.1,←HA.o.2,HF.o,HXm.o,HY.o],by rw[←HA.o.1,HF.o,HXm.o];exact bj (bO HQ5.o.us HWr.o.2 HR1.o.1 (by decide)) (Ql HG1.o.size Hne.o.2.2.1),ak HR1.o.2 HWr.o.2 (fun y e=>by cases e;exact Hn1.o.1)⟩
      ·have e0:(a.vb == 0)=false:=(by rw[hz3];rfl);have HXm:QH (x.more F h s=⟨a,x.us++[s],x.go,x.li⟩):=(by show _=_;unfold Ss.more;rw[if_neg (by omega),if_neg (by omega),Ha2.o]);have HR5:QH (aK ts a=true∧a.vb=h.vb):=⟨hz1,by rw[hz3,hz2]⟩
       clear hz1 hz2 hz3;go_wp2_with fail;go_roundg (ci L (x.us++[s]))
       case measure=>exact Qal HLt.o Hgk.o
       case rel=>exact⟨x.more F h s,pv,m+1,kv,Qj _,by rw[HXm.o];exact HQ5.o,⟨by show _=(x.us++[s]).length;rw[Qa,←HX.o.1];rfl,by show m+1+ci L (x.us++[s])≤L.length;have:=HX.o.2.1;have:=HLt.o;omega,by rw[←HSt.o];exact HX.o.2.2⟩,by rw[HXm.o];exact⟨HR5.o.1,Hx.o.2.1,Hx.o.2.2.1,HR5.o.2⟩⟩
