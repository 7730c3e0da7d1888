import Derived.Test.YtjmepebbcnhalaaGreatZ44
namespace Go.Proofs.YtjmepebbcnhalaaGreat
open Tryz
set_option maxRecDepth 100000
set_option maxHeartbeats 4000000
open Go.RowKit Go.Shelf
variable {S:List Sd} {s:Sd} {j:Nat}
def l9 (S:List Sd) (s:Sd):Bool:=decide (0≤Lib.idxBy eM S s)
theorem zH (p:Option Addr) (c:Nat) (s:Sd) (w:World):Calls prog 63 #[.slice p 0 c,.agg (sdc s).toArray] w fun e w'=>e=.returned (.int .i64 (-1))∧w.grownBy w' none:=by
 unfold sdc;go_enter func63,ntmps63;go_wp2_with fail;refine wp_loop_rounds 1 ?_;rw[rounds_succ];go_wp2;go_ret;exact⟨rfl,QG⟩
theorem wV (v:Value) (S:List Sd) (s:Sd) (w:World) (A:sdR.At w v S):Calls prog 63 #[v,.agg (sdc s).toArray] w fun e w'=>e=.returned (.int .i64 (Lib.idxBy eM S s))∧w.grownBy w' none:=by
 by_cases h0:0<S.length
 ·exact uu v S s w A h0
 ·have e1:S=[]:=List.length_eq_zero_iff.1 (by omega);subst e1;obtain⟨p,cap,rfl⟩:=A.form;exact zH p cap s w
theorem qo (v:Value) (S:List Sd) (s:Sd) (w:World) (A:sdR.At w v S):Calls prog 106 #[v,sdv s] w fun e w'=>e=.returned (.bool (l9 S s))∧w.grownBy w' none:=by
 obtain⟨V,hV⟩:=Qe (w.alloc (.cells #[.int .i64 s.th,.int .i64 s.pl,.int .u8 s.wh.wn,.int .u8 s.wh.vb,.int .u8 s.wh.wm,.int .i64 s.wh.ct,.int .u8 s.wh.su,.int .u8 s.wh.tr,.int .u8 s.wh.mr,.string s.wh.nm] 64));have HG:QH (w.grownBy V none):=by rw[hV];exact QG
 have HS:QH (SdB V w.heap.size s):=by rw[hV];exact aj w _ _
 have C:=wV v S s V (A.keep HG.o);obtain⟨pv,cv,rfl⟩:=A.form;obtain⟨x,hx⟩:=Qe (Lib.idxBy eM S s);have HX:QH (l9 S s=decide (0≤x)):=by rw[hx];rfl
 rw[←hx] at C;unfold sdc at C;unfold sdv;clear A hx;go_enter func106,ntmps106;go_upto_region 1 with fail;rw[←hV];clear hV;obtain⟨n0,hn0⟩:=Qe (w.heap.size);simp only[←hn0] at HS ⊢;clear hn0;obtain⟨s0,s1,s2,s3,s4,s5,s6,s7,s8,s9⟩:=aQ HS.o;go_wp2_with fail;refine C.mono ?_;rintro e1 w1 ⟨rfl,g1⟩;have HG1:QH (V.grownBy w1 none):=g1;clear C g1 s0 s1 s2 s3 s4 s5 s6 s7 s8 s9;go_wp2_with fail;go_ret;exact⟨aI HX.o.symm,aa HG.o HG1.o⟩
def hJ (r n:Int) (cd:Int→Hd×List Pt) (ts:List Th) (F:List Fe) (s:Sd) (h:Hp):Bool:=decide (laE r n cd ts F h=0) && (l9 (swT r n cd ts F) s && i6 cd ts F s h)
theorem tn (s:Sd):∀ (S:List Sd) (i:Nat),0≤Lib.idxByFrom eM s S i→s∈S
 | [],i,h=>by
  rw[Lib.idxByFrom] at h;omega
 | y :: S,i,h=>by
  rw[Lib.idxByFrom] at h;by_cases e:eM s y=true
  ·rw[fH.1 e];exact Qaw
  ·rw[if_neg e] at h;exact Qar _ (tn s S (i+1) h)
theorem uB (s:Sd):∀ (S:List Sd) (i:Nat),s∈S→0≤Lib.idxByFrom eM s S i
 | [],i,h=>by simp at h
 | y :: S,i,h=>by
  rw[Lib.idxByFrom];by_cases e:eM s y=true
  ·rw[if_pos e];omega
  ·rw[if_neg e]
   rcases Qbo.1 h with h | h
   ·exact absurd (fH.2 h) e
   ·exact uB s S (i+1) h
theorem lT:l9 S s=true↔s∈S:=⟨fun h=>tn s S 0 (of_decide_eq_true h),fun h=>Qy (uB s S 0 h)⟩
def ip (r n:Int) (cd:Int→Hd×List Pt) (ts:List Th) (F:List Fe) (h:Hp) (S:List Sd):Option Sd:=if laE r n cd ts F h=0 then gU cd ts F (swT r n cd ts F) h S else none
theorem wC (bv vt vf:Value) (r n:Int) (cd:Int→Hd×List Pt) (ts:List Th) (F:List Fe) (s:Sd) (h:Hp) (w:World) (I:SIn w bv vt vf r n cd ts F) (hb:∃ a,bv=.pointer a):Calls prog 43 #[bv,vt,vf,sdv s,hpv h] w fun e w'=>e=.returned (.bool (hJ r n cd ts F s h))∧w.grownBy w' none:=by
 obtain⟨ba,rfl⟩:=hb;obtain⟨pt,ct,rfl⟩:=I.li.things.form;obtain⟨pf,cf,rfl⟩:=I.li.feats.form;obtain⟨W0,hW0⟩:=Qe (w.alloc (.cells #[.int .i64 s.th,.int .i64 s.pl,.int .u8 s.wh.wn,.int .u8 s.wh.vb,.int .u8 s.wh.wm,.int .i64 s.wh.ct,.int .u8 s.wh.su,.int .u8 s.wh.tr,.int .u8 s.wh.mr,.string s.wh.nm] 64));obtain⟨W1,hW1⟩:=Qe (W0.alloc (.cells #[.int .u8 h.vb,.int .i64 h.on,.int .i64 h.ct,.int .i64 h.ho,.bool h.vn,.bool h.dr] 87));have g0:w.grownBy W0 none:=by rw[hW0];exact QG
 have g1:W0.grownBy W1 none:=by rw[hW1];exact QG
 have e0:W0.heap.size=w.heap.size+1:=by rw[hW0,Qa3]
 have HG1:QH (w.grownBy W1 none):=aa g0 g1;have HS:QH (SdB W1 w.heap.size s):=ag g1 (by rw[hW0];exact aj w _ _) (by simp);have HH:QH (HpB W1 (w.heap.size+1) h):=by rw[←e0,hW1];exact aj _ _ _
 have HI:QH (SIn W1 (.pointer ba) (.slice pt ts.length ct) (.slice pf F.length cf) r n cd ts F):=I.keep HG1.o;have CL:=jr (.pointer ba) _ _ r n cd ts F h W1 HI.o ⟨ba,rfl⟩;unfold jn hpv at CL;have hW1':W1=(w.alloc (.cells #[.int .i64 s.th,.int .i64 s.pl,.int .u8 s.wh.wn,.int .u8 s.wh.vb,.int .u8 s.wh.wm,.int .i64 s.wh.ct,.int .u8 s.wh.su,.int .u8 s.wh.tr,.int .u8 s.wh.mr,.string s.wh.nm] 64)).alloc (.cells #[.int .u8 h.vb,.int .i64 h.on,.int .i64 h.ct,.int .i64 h.ho,.bool h.vn,.bool h.dr] 87):=by rw[hW1,hW0]
 unfold hpv sdv;clear I hW0 hW1 g0 g1 e0;go_enter func43,ntmps43;go_upto_region 1 with fail;rw[←hW1'];clear hW1';obtain⟨n0,hn0⟩:=Qe (w.heap.size);simp only[←hn0] at HH HS ⊢;obtain⟨n1,hn1⟩:=Qe (n0+1);simp only[←hn1] at HH ⊢;clear hn0 hn1;obtain⟨x0,x1,x2,x3,x4,x5⟩:=aJ HH.o;go_wp2_with fail;refine CL.mono ?_;rintro e2 w2 ⟨a,p1,m1,c1,p2,m2,c2,p3,m3,c3,rfl,g2,h2⟩;obtain⟨q,hq⟩:=Qe (laE r n cd ts F h);have Hq:QH (q=laE r n cd ts F h):=hq;rw[←hq];obtain⟨V,hV⟩:=Qe (w2.alloc (.cells #[.pointer a,.slice p1 m1 c1,.slice p2 m2 c2,.slice p3 m3 c3] 175));have gV:w2.grownBy V none:=by rw[hV];exact QG
 have HV:QH (W1.grownBy V none∧w.grownBy V none∧HpB V n1 h∧SdB V n0 s∧dg V w2.heap.size (.pointer a) (.slice p1 m1 c1) (.slice p2 m2 c2) (.slice p3 m3 c3)):=⟨aa g2 gV,aa HG1.o (aa g2 gV),ag (aa g2 gV) HH.o (by simp),ag (aa g2 gV) HS.o (by simp),by rw[hV];exact aj _ _ _⟩
 have H2:QH (∀ R,r=0→bI n cd ts F=some R→aK ts h=true→.pointer a=Value.pointer ba∧.slice p1 m1 c1=Value.slice pt ts.length ct∧.slice p2 m2 c2=Value.slice pf F.length cf∧aV V W1.heap.size (.slice p3 m3 c3) (swL R F)):=fun R x y z=>by
  obtain⟨k1,k2,k3,k4⟩:=h2 R x y z;exact⟨k1,k2,k3,aC k4 gV⟩
 clear CL g2 h2 hq gV x0 x1 x2 x3 x4 x5;go_upto_region 2 with fail;rw[←hV];obtain⟨n2,hn2⟩:=Qe (w2.heap.size);rw[←hn2] at HV ⊢;clear hV hn2;by_cases hq0:q=0
 case neg =>
  have k0:(q != 0)=true:=by simpa using hq0
  have HE:QH (hJ r n cd ts F s h=false):=by show _=_;unfold hJ;rw[←Hq.o,Qx hq0,Qai]
  clear hq0 H2;go_wp2_with fail;go_ret;exact⟨aI HE.o.symm,HV.o.2.1⟩
 have k0:(q != 0)=false:=by simpa using hq0
 have hla:=uU (Hq.o.symm.trans hq0);obtain⟨hr,R,hR,hT⟩:=lC hla.1;obtain⟨k1,k2,k3,k4⟩:=H2.o R hr hR hla.2;have HT:QH (hJ r n cd ts F s h=(l9 (swL R F) s && i6 cd ts F s h)∧aK ts h=true):=⟨by unfold hJ;rw[Qy (Hq.o.symm.trans hq0),Qah,kl hla.1 hR],hla.2⟩
 have HN:QH (∀ X,V.grownBy X none→NIn X (.pointer a) (.slice p1 m1 c1) (.slice p2 m2 c2) (.slice p3 m3 c3) n cd ts F (swL R F)):=fun X qx=>by
  rw[k1,k2,k3];exact HI.o.scene hr hT (aa HV.o.1 qx) (aC k4 qx)
 have CC:=qo _ (swL R F) s V (HN.o V (aw _ _)).at3;unfold sdv at CC;clear hq0 hla hr hR hT k1 k2 k3 k4 H2;obtain⟨b,hb⟩:=Qe (l9 (swL R F) s);have Hb:QH (b=l9 (swL R F) s):=hb;rw[←hb] at CC;clear hb;obtain⟨t0,t1,t2,t3⟩:=bg HV.o.2.2.2.2;obtain⟨s0,s1,s2,s3,s4,s5,s6,s7,s8,s9⟩:=aQ HV.o.2.2.2.1;go_wp2_with fail;refine CC.mono ?_;rintro e4 w4 ⟨rfl,g4⟩;have H4:QH (V.grownBy w4 none∧HpB w4 n1 h∧SdB w4 n0 s∧dg w4 n2 (.pointer a) (.slice p1 m1 c1) (.slice p2 m2 c2) (.slice p3 m3 c3)):=⟨g4,ag g4 HV.o.2.2.1 (by simp),ag g4 HV.o.2.2.2.1 (by simp),ag g4 HV.o.2.2.2.2 (by simp)⟩
 clear CC g4 t0 t1 t2 t3 s0 s1 s2 s3 s4 s5 s6 s7 s8 s9;cases b with
 | false =>
  have HE:QH (hJ r n cd ts F s h=false):=by show _=_;rw[HT.o.1,←Hb.o,Qai]
  go_wp2_with fail;go_ret;exact⟨aI HE.o.symm,aa HV.o.2.1 H4.o.1⟩
 | true =>
  obtain⟨z,fz,A,-⟩:=(HN.o w4 H4.o.1).one ((HN.o w4 H4.o.1).ok s (lT.1 Hb.o.symm));have CS:=oG _ _ _ (.slice p3 m3 c3) n cd ts F s z fz h w4 A HT.o.2;have HE:QH (hJ r n cd ts F s h=i6 cd ts F s h):=by show _=_;rw[HT.o.1,←Hb.o,Qah]
  unfold dn sdv hpv at CS;clear A;obtain⟨t0,t1,t2,t3⟩:=bg H4.o.2.2.2;obtain⟨s0,s1,s2,s3,s4,s5,s6,s7,s8,s9⟩:=aQ H4.o.2.2.1;obtain⟨x0,x1,x2,x3,x4,x5⟩:=aJ H4.o.2.1;go_wp2_with fail;refine CS.mono ?_;rintro e5 w5 ⟨rfl,g5⟩;have HG5:QH (w.grownBy w5 none):=aa HV.o.2.1 (aa H4.o.1 g5);clear CS g5;go_wp2_with fail;go_ret;exact⟨aI HE.o.symm,HG5.o⟩
theorem AX (bv vt vf vu:Value) (r n:Int) (cd:Int→Hd×List Pt) (ts:List Th) (F:List Fe) (h:Hp) (S:List Sd) (w:World) (I:SIn w bv vt vf r n cd ts F) (AU:sdR.At w vu S) (hb:∃ a,bv=.pointer a):Calls prog 40 #[bv,vt,vf,hpv h,vu] w fun e w'=>e=.returned (.tuple #[hpv (mA F h (ip r n cd ts F h S)),sdv (mK (ip r n cd ts F h S)),.bool (ip r n cd ts F h S).isSome])∧w.grownBy w' none:=by
 obtain⟨ba,rfl⟩:=hb;obtain⟨pt,ct,rfl⟩:=I.li.things.form;obtain⟨pf,cf,rfl⟩:=I.li.feats.form;obtain⟨pu,cu,rfl⟩:=AU.form;obtain⟨W0,hW0⟩:=Qe (w.alloc (.cells #[.int .u8 h.vb,.int .i64 h.on,.int .i64 h.ct,.int .i64 h.ho,.bool h.vn,.bool h.dr] 87));obtain⟨W1,hW1⟩:=Qe (W0.alloc (.cells #[.int .u8 0,.int .i64 0,.int .i64 0,.int .i64 0,.bool false,.bool false] 87));obtain⟨W2,hW2⟩:=Qe (W1.alloc (.cells #[.int .i64 0,.int .i64 0,.int .u8 0,.int .u8 0,.int .u8 0,.int .i64 0,.int .u8 0,.int .u8 0,.int .u8 0,.string ⟨#[]⟩] 64));have g0:w.grownBy W0 none:=by rw[hW0];exact QG
 have g1:W0.grownBy W1 none:=by rw[hW1];exact QG
 have g2:W1.grownBy W2 none:=by rw[hW2];exact QG
 have e0:W0.heap.size=w.heap.size+1:=by rw[hW0,Qa3]
 have e1:W1.heap.size=w.heap.size+1+1:=by rw[hW1,Qa3,e0]
 have HG1:QH (w.grownBy W2 none):=aa (aa g0 g1) g2;have HH:QH (HpB W2 w.heap.size h):=ag (aa g1 g2) (by rw[hW0];exact aj w _ _) (by simp);have HZ:QH (HpB W2 (w.heap.size+1) Hp.none):=ag g2 (by rw[←e0,hW1];exact aj _ _ _) (by simp);have HY:QH (SdB W2 (w.heap.size+1+1) Sd.none):=by rw[←e1,hW2];exact aj _ _ _
 have HI:QH (SIn W2 (.pointer ba) (.slice pt ts.length ct) (.slice pf F.length cf) r n cd ts F∧sdR.At W2 (.slice pu S.length cu) S):=⟨I.keep HG1.o,AU.keep HG1.o⟩
 have CL:=jr (.pointer ba) _ _ r n cd ts F h W2 HI.o.1 ⟨ba,rfl⟩;unfold jn hpv at CL;have hW':W2=((w.alloc (.cells #[.int .u8 h.vb,.int .i64 h.on,.int .i64 h.ct,.int .i64 h.ho,.bool h.vn,.bool h.dr] 87)).alloc (.cells #[.int .u8 0,.int .i64 0,.int .i64 0,.int .i64 0,.bool false,.bool false] 87)).alloc (.cells #[.int .i64 0,.int .i64 0,.int .u8 0,.int .u8 0,.int .u8 0,.int .i64 0,.int .u8 0,.int .u8 0,.int .u8 0,.string ⟨#[]⟩] 64):=by rw[hW2,hW1,hW0]
 obtain⟨m,hm⟩:=Qe (S.length);rw[←hm] at HI ⊢;clear hm;unfold hpv;clear I AU hW0 hW1 hW2 g0 g1 g2 e0 e1;go_enter func40,ntmps40;go_upto_region 1 with fail;rw[←hW'];clear hW';obtain⟨n0,hn0⟩:=Qe (w.heap.size);have Hn0:QH (w.heap.size≤n0):=by rw[hn0];exact Qj _
 simp only[←hn0] at HH HZ HY ⊢;obtain⟨n1,hn1⟩:=Qe (n0+1);simp only[←hn1] at HZ HY ⊢;obtain⟨n2,hn2⟩:=Qe (n1+1);simp only[←hn2] at HY ⊢;have Hne:QH (n1≠n2∧w.heap.size≤n1∧w.heap.size≤n2):=⟨by omega,by have:=Hn0.o;omega,by have:=Hn0.o;omega⟩
 clear hn0 hn1 hn2;obtain⟨x0,x1,x2,x3,x4,x5⟩:=aJ HH.o;go_wp2_with fail;refine CL.mono ?_;rintro e2 w2 ⟨a,p1,m1,c1,p2,m2,c2,p3,m3,c3,rfl,g2,h2⟩;obtain⟨q,hq⟩:=Qe (laE r n cd ts F h);have Hq:QH (q=laE r n cd ts F h):=hq;rw[←hq];obtain⟨V,hV⟩:=Qe (w2.alloc (.cells #[.pointer a,.slice p1 m1 c1,.slice p2 m2 c2,.slice p3 m3 c3] 175));have gV:w2.grownBy V none:=by rw[hV];exact QG
 have HV:QH (W2.grownBy V none∧w.grownBy V none∧HpB V n0 h∧HpB V n1 Hp.none∧SdB V n2 Sd.none∧dg V w2.heap.size (.pointer a) (.slice p1 m1 c1) (.slice p2 m2 c2) (.slice p3 m3 c3)):=⟨aa g2 gV,aa HG1.o (aa g2 gV),ag (aa g2 gV) HH.o (by simp),ag (aa g2 gV) HZ.o (by simp),ag (aa g2 gV) HY.o (by simp),by rw[hV];exact aj _ _ _⟩
 have H2:QH (∀ R,r=0→bI n cd ts F=some R→aK ts h=true→.pointer a=Value.pointer ba∧.slice p1 m1 c1=Value.slice pt ts.length ct∧.slice p2 m2 c2=Value.slice pf F.length cf∧aV V W2.heap.size (.slice p3 m3 c3) (swL R F)):=fun R x y z=>by
  obtain⟨k1,k2,k3,k4⟩:=h2 R x y z;exact⟨k1,k2,k3,aC k4 gV⟩
 clear CL g2 h2 hq gV x0 x1 x2 x3 x4 x5;go_upto_region 2 with fail;rw[←hV];obtain⟨n3,hn3⟩:=Qe (w2.heap.size);rw[←hn3] at HV ⊢;clear hV hn3;by_cases hq0:q=0
 case neg =>
  have k0:(q != 0)=true:=by simpa using hq0
  have HE:QH (ip r n cd ts F h S=none):=if_neg (fun e=>hq0 (Hq.o.trans e));clear hq0 H2;obtain⟨W5,hW5⟩:=Qe (V.setRow n1 (hpa Hp.none));have H5:QH (HpB W5 n1 Hp.none∧SdB W5 n2 Sd.none∧w.grownBy W5 none):=⟨by rw[hW5];exact setRow_heap V n1 _ _ _ _ HV.o.2.2.2.1,by rw[hW5];exact ag (az _ _ _) HV.o.2.2.2.2.1 (fun q=>Hne.o.1 (Qa1 q).symm),by rw[hW5];exact ak HV.o.2.1 (az _ _ _) (fun y e=>by cases e;exact Hne.o.2.1)⟩
  obtain⟨W6,hW6⟩:=Qe (W5.setRow n2 (sda Sd.none));have H6:QH (HpB W6 n1 Hp.none∧SdB W6 n2 Sd.none∧w.grownBy W6 none):=⟨by rw[hW6];exact ag (az _ _ _) H5.o.1 (fun q=>Hne.o.1 (Qa1 q)),by rw[hW6];exact setRow_heap W5 n2 _ _ _ _ H5.o.2.1,by rw[hW6];exact ak H5.o.2.2 (az _ _ _) (fun y e=>by cases e;exact Hne.o.2.2)⟩
  go_wp2_with (first | (refine wpList_store_row rfl 87 (.tmp 10) (.tmp 25) rfl n1 (hpa Hp.none) rfl rfl 87 _ HV.o.2.2.2.1 (by kernel_rfl) rfl (by simp[hpa,Value.oneCell']) ?_) | (refine wpList_store_row rfl 64 (.tmp 11) (.tmp 26) rfl n2 (sda Sd.none) rfl rfl 64 _ (by rw[←hW5];exact H5.o.2.1) (by kernel_rfl) rfl (by simp[sda,Value.oneCell']) ?_))
  rw[←hW5,←hW6];clear hW5 hW6 H5;obtain⟨y0,y1,y2,y3,y4,y5⟩:=cD H6.o.1;obtain⟨z0,z1,z2,z3,z4,z5,z6,z7,z8,z9⟩:=iU H6.o.2.1;refine bodyPost_ret (v:=.tuple #[hpv Hp.none,sdv Sd.none,.bool false]) (by simp[results,results40,go_sem,hpv,sdv,Hp.none,Sd.none,Pt.none,y0,y1,y2,y3,y4,y5,z0,z1,z2,z3,z4,z5,z6,z7,z8,z9]) rfl ⟨by rw[HE.o];rfl,H6.o.2.2⟩
 have k0:(q != 0)=false:=by simpa using hq0
 have hla:=uU (Hq.o.symm.trans hq0);obtain⟨hr,R,hR,hT⟩:=lC hla.1;obtain⟨k1,k2,k3,k4⟩:=H2.o R hr hR hla.2;have HE:QH (ip r n cd ts F h S=gU cd ts F (swL R F) h S):=by show _=_;unfold ip;rw[if_pos (Hq.o.symm.trans hq0),kl hla.1 hR]
 have HN:NIn V (.pointer a) (.slice p1 m1 c1) (.slice p2 m2 c2) (.slice p3 m3 c3) n cd ts F (swL R F):=by
  rw[k1,k2,k3];exact HI.o.1.scene hr hT HV.o.1 k4
 have CN:=rp _ _ _ _ _ n cd ts F (swL R F) S h V HN (HI.o.2.keep HV.o.1) hla.2;obtain⟨o,ho⟩:=Qe (gU cd ts F (swL R F) h S);rw[←ho] at HE CN;obtain⟨X,hX⟩:=Qe (mA F h o);obtain⟨Y,hY⟩:=Qe (mK o);obtain⟨z,hz⟩:=Qe (o.isSome);have HXY:QH (X=mA F h o∧Y=mK o∧z=o.isSome):=⟨hX,hY,hz⟩
 rw[←hX,←hY,←hz] at CN;unfold dn hpv sdv at CN;clear hq0 hla hr hR hT k1 k2 k3 k4 H2 HN ho hX hY hz;obtain⟨t0,t1,t2,t3⟩:=bg HV.o.2.2.2.2.2;obtain⟨x0,x1,x2,x3,x4,x5⟩:=aJ HV.o.2.2.1;go_wp2_with fail;refine CN.mono ?_;rintro e5 w5 ⟨rfl,g5⟩;have H7:QH (w.grownBy w5 none∧HpB w5 n1 Hp.none∧SdB w5 n2 Sd.none):=⟨aa HV.o.2.1 g5,ag g5 HV.o.2.2.2.1 (by simp),ag g5 HV.o.2.2.2.2.1 (by simp)⟩
 clear CN g5 t0 t1 t2 t3 x0 x1 x2 x3 x4 x5;obtain⟨W5,hW5⟩:=Qe (w5.setRow n1 (hpa X));have H5:QH (HpB W5 n1 X∧SdB W5 n2 Sd.none∧w.grownBy W5 none):=⟨by rw[hW5];exact setRow_heap w5 n1 _ _ _ _ H7.o.2.1,by rw[hW5];exact ag (az _ _ _) H7.o.2.2 (fun q=>Hne.o.1 (Qa1 q).symm),by rw[hW5];exact ak H7.o.1 (az _ _ _) (fun y e=>by cases e;exact Hne.o.2.1)⟩
 obtain⟨W6,hW6⟩:=Qe (W5.setRow n2 (sda Y));have H6:QH (HpB W6 n1 X∧SdB W6 n2 Y∧w.grownBy W6 none):=⟨by rw[hW6];exact ag (az _ _ _) H5.o.1 (fun q=>Hne.o.1 (Qa1 q)),by rw[hW6];exact setRow_heap W5 n2 _ _ _ _ H5.o.2.1,by rw[hW6];exact ak H5.o.2.2 (az _ _ _) (fun y e=>by cases e;exact Hne.o.2.2)⟩
 go_wp2_with (refine wpList_store_row rfl 87 (.tmp 10) (.tmp 31) rfl n1 (hpa X) rfl rfl 87 _ H7.o.2.1 (by kernel_rfl) rfl (by simp[hpa,Value.oneCell']) ?_;rw[←hW5];refine wpList_store_row rfl 64 (.tmp 11) (.tmp 32) rfl n2 (sda Y) rfl rfl 64 _ H5.o.2.1 (by kernel_rfl) rfl (by simp[sda,Value.oneCell']) ?_)
 rw[←hW5,←hW6];clear hW5 hW6 H5;obtain⟨y0,y1,y2,y3,y4,y5⟩:=aJ H6.o.1;obtain⟨z0,z1,z2,z3,z4,z5,z6,z7,z8,z9⟩:=aQ H6.o.2.1;refine bodyPost_ret (v:=.tuple #[hpv X,sdv Y,.bool z]) (by simp[results,results40,go_sem,hpv,sdv,y0,y1,y2,y3,y4,y5,z0,z1,z2,z3,z4,z5,z6,z7,z8,z9]) rfl ⟨by rw[HE.o,HXY.o.1,HXY.o.2.1,HXY.o.2.2];rfl,H6.o.2.2⟩
theorem jY (vt:Value) (ts:List Th) (h:Hp) (w:World) (A:thR.At w vt ts) (hl:ts.length≤2048):Calls prog 101 #[vt,hpv h] w fun e w'=>e=.returned (.bool (aK ts h))∧w.grownBy w' none:=by
 obtain⟨pt,ct,rfl⟩:=A.form;obtain⟨V,hV⟩:=Qe (w.alloc (.cells #[.int .u8 h.vb,.int .i64 h.on,.int .i64 h.ct,.int .i64 h.ho,.bool h.vn,.bool h.dr] 87));have HG:QH (w.grownBy V none):=by rw[hV];exact QG
 have HH:QH (HpB V w.heap.size h):=by rw[hV];exact aj w _ _
 have HA:QH (thR.At V (.slice pt ts.length ct) ts∧ts.length≤2048):=⟨A.keep HG.o,hl⟩
 unfold hpv;clear A hl;go_enter func101,ntmps101;go_upto_region 1 with fail;rw[←hV];clear hV;obtain⟨n0,hn0⟩:=Qe (w.heap.size);simp only[←hn0] at HH ⊢;clear hn0;obtain⟨x0,x1,x2,x3,x4,x5⟩:=aJ HH.o;by_cases h1:h.on=-1
 ·have HP:QH (cg h.on=true):=by show _=_;unfold cg;rw[Qy h1,Qdh]
  have HO:QH (dO ts h.on=false):=kN (by omega);rw[h1] at x1;clear h1 HA;go_upto_region 3 with fail;have HT:QH (aK ts h=if h.vb=1 then (true && (decide (-9999≤h.ct) && decide (h.ct≤9999))) else if h.vb=6 then false else if h.vb=3 then true else false):=by show _=_;unfold aK;rw[HP.o,HO.o];rfl
  clear HP HO;by_cases v1:h.vb=1
  ·have HR:=HT.o.trans (if_pos v1);rw[v1] at x0;by_cases d1:-9999≤h.ct
   ·have d1':decide (-9999≤h.ct)=true:=Qy d1;have HR2:QH (aK ts h=decide (h.ct≤9999)):=(by show _=_;rw[HR,d1'];rfl);clear HR HT v1 d1;go_wp2_with fail;go_ret;exact⟨aI HR2.o.symm,HG.o⟩
   ·have d1':decide (-9999≤h.ct)=false:=Qx d1;have HR2:QH (aK ts h=false):=(by show _=_;rw[HR,d1'];rfl);clear HR HT v1 d1;go_wp2_with fail;go_ret;exact⟨aI HR2.o.symm,HG.o⟩
  ·have k1:(h.vb == 1)=false:=(by simpa using v1);have HR:=HT.o.trans (if_neg v1);by_cases v6:h.vb=6
   ·have HR2:QH (aK ts h=false):=HR.trans (if_pos v6);rw[v6] at x0;clear HR HT v1 v6 k1;go_wp2_with fail;go_ret;exact⟨aI HR2.o.symm,HG.o⟩
   ·have k6:(h.vb == 6)=false:=(by simpa using v6);have HR3:=HR.trans (if_neg v6);by_cases v3:h.vb=3
    ·have HR2:QH (aK ts h=true):=HR3.trans (if_pos v3);rw[v3] at x0;clear HR HR3 HT v1 v6 v3 k1 k6;go_wp2_with fail;go_ret;exact⟨aI HR2.o.symm,HG.o⟩
    ·have k3:(h.vb == 3)=false:=(by simpa using v3);have HR2:QH (aK ts h=false):=HR3.trans (if_neg v3);clear HR HR3 HT v1 v6 v3;go_wp2_with fail;go_ret;exact⟨aI HR2.o.symm,HG.o⟩
 ·have j1:(h.on == -1)=false:=by simpa using h1
  by_cases h2:h.on=-2
  ·have HP:QH (cg h.on=true):=(by show _=_;unfold cg;rw[Qy h2,Bool.or_true]);have HO:QH (dO ts h.on=false):=kN (by omega);rw[h2] at x1;clear h1 h2 HA j1;go_upto_region 3 with fail;have HT:QH (aK ts h=if h.vb=1 then (true && (decide (-9999≤h.ct) && decide (h.ct≤9999))) else if h.vb=6 then false else if h.vb=3 then true else false):=(by show _=_;unfold aK;rw[HP.o,HO.o];rfl);clear HP HO;by_cases v1:h.vb=1
   ·have HR:=HT.o.trans (if_pos v1);rw[v1] at x0;by_cases d1:-9999≤h.ct
    ·have d1':decide (-9999≤h.ct)=true:=Qy d1;have HR2:QH (aK ts h=decide (h.ct≤9999)):=(by show _=_;rw[HR,d1'];rfl);clear HR HT v1 d1;go_wp2_with fail;go_ret;exact⟨aI HR2.o.symm,HG.o⟩
    ·have d1':decide (-9999≤h.ct)=false:=Qx d1;have HR2:QH (aK ts h=false):=(by show _=_;rw[HR,d1'];rfl);clear HR HT v1 d1;go_wp2_with fail;go_ret;exact⟨aI HR2.o.symm,HG.o⟩
   ·have k1:(h.vb == 1)=false:=(by simpa using v1);have HR:=HT.o.trans (if_neg v1);by_cases v6:h.vb=6
    ·have HR2:QH (aK ts h=false):=HR.trans (if_pos v6);rw[v6] at x0;clear HR HT v1 v6 k1;go_wp2_with fail;go_ret;exact⟨aI HR2.o.symm,HG.o⟩
    ·have k6:(h.vb == 6)=false:=(by simpa using v6);have HR3:=HR.trans (if_neg v6);by_cases v3:h.vb=3
     ·have HR2:QH (aK ts h=true):=HR3.trans (if_pos v3);rw[v3] at x0;clear HR HR3 HT v1 v6 v3 k1 k6;go_wp2_with fail;go_ret;exact⟨aI HR2.o.symm,HG.o⟩
     ·have k3:(h.vb == 3)=false:=(by simpa using v3);have HR2:QH (aK ts h=false):=HR3.trans (if_neg v3);clear HR HR3 HT v1 v6 v3;go_wp2_with fail;go_ret;exact⟨aI HR2.o.symm,HG.o⟩
  ·have j2:(h.on == -2)=false:=(by simpa using h2);have HP:QH (cg h.on=false):=(by show _=_;unfold cg;rw[Qx h1,Qx h2];rfl);by_cases h3:1≤h.on
   ·have d3:decide (1≤h.on)=true:=Qy h3;by_cases h4:h.on≤(ts.length:Int)
    ·have d4:decide (h.on≤(ts.length:Int))=true:=Qy h4;obtain⟨j,hj⟩:∃ j:Nat,h.on=(j:Int)+1:=⟨(h.on - 1).toNat,by omega⟩
     have hjl:j<ts.length:=(by omega);obtain⟨t,ht⟩:∃ t,ts[j]?=some t:=⟨_,Qg hjl⟩
     have z1:(j:Int)<(ts.length:Int):=Int.ofNat_lt.2 hjl;have z0:(0:Int)≤(j:Int):=Int.natCast_nonneg j;have wz:wrap64 (j:Int)=(j:Int):=(by have:=HA.o.2;unfold wrap64;omega);have wz2:IntKind.i64.wrap (j:Int)=(j:Int):=(by have:=HA.o.2;rw[IntWalk.i64_in _ (by omega)]);obtain⟨gT,oT,cT,eT,-⟩:=bz HA.o.1 hjl;injection eT with eT eT2 eT3;clear eT2 eT3;subst eT;obtain⟨-,-,t2,-⟩:=aZ (eJ HA.o.1 ht);have HO0:QH (dO ts h.on=decide (t.place=4)):=(by show _=_;rw[hj,yB ht]);rw[hj] at j1 j2 x1 d3 d4;by_cases h5:t.place=4
     ·have HO:QH (dO ts h.on=true):=HO0.o.trans (Qy h5);rw[h5] at t2;clear h1 h2 h3 h4 h5 hj hjl ht HO0 HA;go_upto_region 3 with fail;have HT:QH (aK ts h=if h.vb=1 then (true && (decide (-9999≤h.ct) && decide (h.ct≤9999))) else if h.vb=6 then true else if h.vb=3 then false else false):=(by show _=_;unfold aK;rw[HP.o,HO.o];rfl);clear HP HO;by_cases v1:h.vb=1
      ·have HR:=HT.o.trans (if_pos v1);rw[v1] at x0;by_cases d1:-9999≤h.ct
       ·have d1':decide (-9999≤h.ct)=true:=Qy d1;have HR2:QH (aK ts h=decide (h.ct≤9999)):=(by show _=_;rw[HR,d1'];rfl);clear HR HT v1 d1;go_wp2_with fail;go_ret;exact⟨aI HR2.o.symm,HG.o⟩
       ·have d1':decide (-9999≤h.ct)=false:=Qx d1;have HR2:QH (aK ts h=false):=(by show _=_;rw[HR,d1'];rfl);clear HR HT v1 d1;go_wp2_with fail;go_ret;exact⟨aI HR2.o.symm,HG.o⟩
      ·have k1:(h.vb == 1)=false:=(by simpa using v1);have HR:=HT.o.trans (if_neg v1);by_cases v6:h.vb=6
       ·have HR2:QH (aK ts h=true):=HR.trans (if_pos v6);rw[v6] at x0;clear HR HT v1 v6 k1;go_wp2_with fail;go_ret;exact⟨aI HR2.o.symm,HG.o⟩
       ·have k6:(h.vb == 6)=false:=(by simpa using v6);have HR3:=HR.trans (if_neg v6);by_cases v3:h.vb=3
        ·have HR2:QH (aK ts h=false):=HR3.trans (if_pos v3);rw[v3] at x0;clear HR HR3 HT v1 v6 v3 k1 k6;go_wp2_with fail;go_ret;exact⟨aI HR2.o.symm,HG.o⟩
        ·have k3:(h.vb == 3)=false:=(by simpa using v3);have HR2:QH (aK ts h=false):=HR3.trans (if_neg v3);clear HR HR3 HT v1 v6 v3;go_wp2_with fail;go_ret;exact⟨aI HR2.o.symm,HG.o⟩
     ·have HO:QH (dO ts h.on=false):=HO0.o.trans (Qx h5);have k5:(t.place == 4)=false:=(by simpa using h5);clear h1 h2 h3 h4 h5 hj hjl ht HO0 HA;go_upto_region 3 with fail;have HT:QH (aK ts h=if h.vb=1 then (false && (decide (-9999≤h.ct) && decide (h.ct≤9999))) else if h.vb=6 then false else if h.vb=3 then false else false):=(by show _=_;unfold aK;rw[HP.o,HO.o];rfl);clear HP HO;by_cases v1:h.vb=1
      ·have HR:=HT.o.trans (if_pos v1);rw[v1] at x0;have HR2:QH (aK ts h=false):=HR;clear HR HT v1;go_wp2_with fail;go_ret;exact⟨aI HR2.o.symm,HG.o⟩
      ·have k1:(h.vb == 1)=false:=(by simpa using v1);have HR:=HT.o.trans (if_neg v1);by_cases v6:h.vb=6
       ·have HR2:QH (aK ts h=false):=HR.trans (if_pos v6);rw[v6] at x0;clear HR HT v1 v6 k1;go_wp2_with fail;go_ret;exact⟨aI HR2.o.symm,HG.o⟩
       ·have k6:(h.vb == 6)=false:=(by simpa using v6);have HR3:=HR.trans (if_neg v6);by_cases v3:h.vb=3
        ·have HR2:QH (aK ts h=false):=HR3.trans (if_pos v3);rw[v3] at x0;clear HR HR3 HT v1 v6 v3 k1 k6;go_wp2_with fail;go_ret;exact⟨aI HR2.o.symm,HG.o⟩
        ·have k3:(h.vb == 3)=false:=(by simpa using v3);have HR2:QH (aK ts h=false):=HR3.trans (if_neg v3);clear HR HR3 HT v1 v6 v3;go_wp2_with fail;go_ret;exact⟨aI HR2.o.symm,HG.o⟩
    ·have d4:decide (h.on≤(ts.length:Int))=false:=Qx h4;have HO:QH (dO ts h.on=false):=qJ h4;clear h1 h2 h3 h4 HA;go_upto_region 3 with fail;have HT:QH (aK ts h=if h.vb=1 then (false && (decide (-9999≤h.ct) && decide (h.ct≤9999))) else if h.vb=6 then false else if h.vb=3 then false else false):=(by show _=_;unfold aK;rw[HP.o,HO.o];rfl);clear HP HO;by_cases v1:h.vb=1
     ·have HR:=HT.o.trans (if_pos v1);rw[v1] at x0;have HR2:QH (aK ts h=false):=HR;clear HR HT v1;go_wp2_with fail;go_ret;exact⟨aI HR2.o.symm,HG.o⟩
     ·have k1:(h.vb == 1)=false:=(by simpa using v1);have HR:=HT.o.trans (if_neg v1);by_cases v6:h.vb=6
      ·have HR2:QH (aK ts h=false):=HR.trans (if_pos v6);rw[v6] at x0;clear HR HT v1 v6 k1;go_wp2_with fail;go_ret;exact⟨aI HR2.o.symm,HG.o⟩
      ·have k6:(h.vb == 6)=false:=(by simpa using v6);have HR3:=HR.trans (if_neg v6);by_cases v3:h.vb=3
       ·have HR2:QH (aK ts h=false):=HR3.trans (if_pos v3);rw[v3] at x0;clear HR HR3 HT v1 v6 v3 k1 k6;go_wp2_with fail;go_ret;exact⟨aI HR2.o.symm,HG.o⟩
       ·have k3:(h.vb == 3)=false:=(by simpa using v3);have HR2:QH (aK ts h=false):=HR3.trans (if_neg v3);clear HR HR3 HT v1 v6 v3;go_wp2_with fail;go_ret;exact⟨aI HR2.o.symm,HG.o⟩
   ·have d3:decide (1≤h.on)=false:=Qx h3;have HO:QH (dO ts h.on=false):=kN h3;clear h1 h2 h3 HA;go_upto_region 3 with fail;have HT:QH (aK ts h=if h.vb=1 then (false && (decide (-9999≤h.ct) && decide (h.ct≤9999))) else if h.vb=6 then false else if h.vb=3 then false else false):=(by show _=_;unfold aK;rw[HP.o,HO.o];rfl);clear HP HO;by_cases v1:h.vb=1
    ·have HR:=HT.o.trans (if_pos v1);rw[v1] at x0;have HR2:QH (aK ts h=false):=HR;clear HR HT v1;go_wp2_with fail;go_ret;exact⟨aI HR2.o.symm,HG.o⟩
    ·have k1:(h.vb == 1)=false:=(by simpa using v1);have HR:=HT.o.trans (if_neg v1);by_cases v6:h.vb=6
     ·have HR2:QH (aK ts h=false):=HR.trans (if_pos v6);rw[v6] at x0;clear HR HT v1 v6 k1;go_wp2_with fail;go_ret;exact⟨aI HR2.o.symm,HG.o⟩
     ·have k6:(h.vb == 6)=false:=(by simpa using v6);have HR3:=HR.trans (if_neg v6);by_cases v3:h.vb=3
      ·have HR2:QH (aK ts h=false):=HR3.trans (if_pos v3);rw[v3] at x0;clear HR HR3 HT v1 v6 v3 k1 k6;go_wp2_with fail;go_ret;exact⟨aI HR2.o.symm,HG.o⟩
      ·have k3:(h.vb == 3)=false:=(by simpa using v3);have HR2:QH (aK ts h=false):=HR3.trans (if_neg v3);clear HR HR3 HT v1 v6 v3;go_wp2_with fail;go_ret;exact⟨aI HR2.o.symm,HG.o⟩
theorem Du (r n:Int) (cd:Int→Hd×List Pt) (ts:List Th) (F:List Fe):bgE r n cd ts F 1=lkE r n cd ts F []:=by
 unfold bgE;by_cases h:lkE r n cd ts F []=0
 ·rw[if_pos h,if_pos (by decide),h]
 ·rw[if_neg h]
theorem l3 (ok:Nat→Prop) (r:Nat) (v:Value) (p:Pl) (gs:List Ent) (vt vf:Value) (ts:List Th) (F:List Fe) (w:World) (B:RD ok w r v p gs) (A:thR.At w vt ts) (AF:feR.At w vf F) (hr:TrI F):Calls prog 100 #[.pointer (some ⟨r,0,none⟩),vt,vf] w fun e w'=>e=.returned (.int .i64 (lkE (aX p ts.length) (gs.length:Int) (atC p gs) ts F []))∧w.grownBy w' none:=by
 have C1:=bA r v p w B.rj;have CS:=fW r v p w B.rj;have C2:=jS ok r v p gs vt vf ts F w B A AF hr;obtain⟨pt,ct,rfl⟩:=A.form;obtain⟨pf,cf,rfl⟩:=AF.form;clear B A AF hr;go_enter func100,ntmps100;go_wp2_with fail;refine C1.mono ?_;rintro e1 w1 ⟨rfl,hw1⟩;rw[hw1];clear hw1 w1 C1;by_cases h2:(2048:Int)<(ts.length:Int)
 ·have HE:QH (lkE (aX p ts.length) (gs.length:Int) (atC p gs) ts F []=3):=by
   show _=_;unfold aX;rw[if_pos (by omega),DL (by decide)]
  have d2:decide ((2048:Int)<(ts.length:Int))=true:=Qy h2;clear h2;go_wp2_with fail;go_ret;exact⟨by rw[HE.o] <;> rfl,aw _ _⟩
 ·have d2:decide ((2048:Int)<(ts.length:Int))=false:=Qx h2;obtain⟨q,hq⟩:=Qe (fp p gs ts F)
  have HE:QH (lkE (aX p ts.length) (gs.length:Int) (atC p gs) ts F []=if q then 0 else 2):=by
   show _=_;rw[Bv (by omega),←hq]
  rw[←hq] at C2;have HQ0:QH (q=fp p gs ts F):=hq;clear hq h2;obtain⟨sh,hs⟩:=Qe (p.shut);rw[←hs] at CS;have HQ:QH (sh=false→q=false):=by rw[hs,HQ0.o];intro e;unfold fp;rw[e,Qai]
  clear hs HQ0;cases sh with
  | false =>
   have hqf:=HQ.o rfl;subst hqf;clear C2;go_wp2_with fail;refine CS.mono ?_;rintro e2 w2 ⟨rfl,hw2⟩;rw[hw2];clear hw2 w2 CS;go_wp2_with fail;go_ret;exact⟨by rw[HE.o] <;> rfl,aw _ _⟩
  | true =>
   go_wp2_with fail;refine CS.mono ?_;rintro e2 w2 ⟨rfl,hw2⟩;rw[hw2];clear hw2 w2 CS;go_wp2_with fail;refine C2.mono ?_;rintro e2 w2 ⟨rfl,g2⟩;have HG:QH (w.grownBy w2 none):=g2;clear C2 g2;cases q with
   | true =>
    go_wp2_with fail;go_ret;exact⟨by rw[HE.o] <;> rfl,HG.o⟩
   | false =>
    go_wp2_with fail;go_ret;exact⟨by rw[HE.o] <;> rfl,HG.o⟩
theorem qM {o:Sd} (ho:S[j]?=some o) (h:fl (S.take j) s=false) (hn:¬(o.th=s.th∧o.pl=s.pl)):fl (S.take (j+1)) s=false:=by
 unfold fl at *;rw[Qat,ho,List.any_append,h]
 have:(decide (o.th=s.th) && decide (o.pl=s.pl))=false:=by
  cases e:(decide (o.th=s.th) && decide (o.pl=s.pl))
  ·rfl
  ·rw[Qae,decide_eq_true_eq,decide_eq_true_eq] at e;exact absurd e hn
 simp[this]
theorem Ek {o:Sd} (ho:S[j]?=some o) (h1:o.th=s.th) (h2:o.pl=s.pl):fl S s=true:=by
 unfold fl;rw[List.any_eq_true];exact⟨o,Qm ho,by simp[h1,h2]⟩
theorem GM {j n:Nat} (h:¬(j:Int)<(n:Int)):¬j<n:=by omega
theorem Eo (j n:Nat) (hj:(j:Int)<(n:Int)) (hn:n≤maxLen):(0:Int)≤(j:Int)∧wrap64 ((j:Int)+1)=(j:Int)+1∧j<n∧n - (j+1)<n - j∧j+1≤n:=by
 unfold maxLen at hn;refine⟨by omega,?_,by omega,by omega,by omega⟩;unfold wrap64;omega
theorem sc (vu:Value) (S:List Sd) (s:Sd) (w:World) (A:sdR.At w vu S):Calls prog 103 #[sdv s,vu] w fun e w'=>e=.returned (.bool (fl S s))∧w.grownBy w' none:=by
 obtain⟨pu,cu,rfl⟩:=A.form;have HLn:QH (S.length≤maxLen):=by obtain⟨_,_,_,q,_⟩:=A;exact q
 obtain⟨V,hV⟩:=Qe (w.alloc (.cells #[.int .i64 s.th,.int .i64 s.pl,.int .u8 s.wh.wn,.int .u8 s.wh.vb,.int .u8 s.wh.wm,.int .i64 s.wh.ct,.int .u8 s.wh.su,.int .u8 s.wh.tr,.int .u8 s.wh.mr,.string s.wh.nm] 64));have HG:QH (w.grownBy V none):=by rw[hV];exact QG
 have HS:QH (SdB V w.heap.size s):=by rw[hV];exact aj w _ _
 have HA:QH (sdR.At V (.slice pu S.length cu) S):=A.keep HG.o;obtain⟨n,hn⟩:=Qe (S.length);have HL:QH (n=S.length):=hn;rw[←hn] at HA HLn ⊢;unfold sdv;clear A hn;go_enter func103,ntmps103;go_upto_region 1 with fail;rw[←hV];clear hV;obtain⟨n0,hn0⟩:=Qe (w.heap.size);simp only[←hn0] at HS ⊢;clear hn0;go_wp2_with fail;go_loopw [5] (fun i wr=>∃ (j:Nat),j≤n∧i=.int .i64 (j:Int)∧QH (fl (S.take j) s=false)∧QH (V.grownBy wr none)) (fun i _=>n - (intOf i).toNat)
 case atStart=>exact⟨0,Q0 _,rfl,rfl,aw _ _⟩
 case round =>
  obtain⟨j,hj,rfl,HT,HR0⟩:=hrel;have HR:QH (True∧V.grownBy wr none):=⟨trivial,HR0.o⟩
  obtain⟨U,hU⟩:=Qe (wr);subst hU;clear HR0;have HS2:QH (SdB U n0 s):=ag HR.o.2 HS.o (by simp);obtain⟨s0,s1,-⟩:=aQ HS2.o;by_cases hc:(j:Int)<(n:Int)
  ·obtain⟨k1,k12,k3,k4,k5⟩:=Eo j n hc HLn.o;have HM:QH (n - (j+1)<n - j∧j+1≤n):=⟨k4,k5⟩
   obtain⟨p',c',e1,hmx,hA⟩:=HA.o.keep HR.o.2;injection e1 with e1 e2 e3;obtain⟨g,off,e4,hR⟩:=hA (by rw[←HL.o];exact Qbg (Q0 _) k3);rw[e4] at e1;obtain⟨o,ho⟩:∃ o,S[j]?=some o:=⟨_,Qg (by rw[←HL.o];exact k3)⟩
   have HO:QH (S[j]?=some o):=ho;obtain⟨y0,y1,-⟩:=bu (hR j o ho);rw[show sdR.k=10 from rfl] at y0 y1;subst e1;clear e2 e3 e4 hmx hA hR ho k3 k4 k5 hj;by_cases h1:o.th=s.th
   ·have t1:(o.th == s.th)=true:=(by rw[h1];exact beq_self_eq_true _);by_cases h2:o.pl=s.pl
    ·have t2:(o.pl == s.pl)=true:=(by rw[h2];exact beq_self_eq_true _);have HE:QH (fl S s=true):=Ek HO.o h1 h2;clear h1 h2;go_upto_region 4 with fail;go_quiet (fail);go_wp2_with fail;go_ret;exact⟨aI HE.o.symm,aa HG.o (aa HR.o.2 (aA _ _ _))⟩
    ·have t2:(o.pl == s.pl)=false:=(by simpa using h2);have HN:QH (fl (S.take (j+1)) s=false):=qM HO.o HT.o (fun q=>h2 q.2);clear h1 h2 HT;go_upto_region 4 with fail;go_quiet (fail);go_wp2_with fail;go_roundw
     case rel=>exact⟨j+1,HM.o.2,by rw[k12];rfl,HN.o,aa HR.o.2 (aA _ _ _)⟩
     case measure=>rw[k12];exact HM.o.1
   ·have t1:(o.th == s.th)=false:=(by simpa using h1);have HN:QH (fl (S.take (j+1)) s=false):=qM HO.o HT.o (fun q=>h1 q.1);clear h1 HT;go_upto_region 4 with fail;go_quiet (fail);go_wp2_with fail;go_roundw
    case rel=>exact⟨j+1,HM.o.2,by rw[k12];rfl,HN.o,aa HR.o.2 (aA _ _ _)⟩
    case measure=>rw[k12];exact HM.o.1
  ·have hc':¬j<n:=GM hc
   have HE:QH (fl S s=false):=by
    have e:=HT.o;rw[Qba (by rw[←HL.o];exact Qac hc')] at e;exact e
   clear hj HT;go_wp2_with fail;go_ret;exact⟨aI HE.o.symm,aa HG.o HR.o.2⟩
