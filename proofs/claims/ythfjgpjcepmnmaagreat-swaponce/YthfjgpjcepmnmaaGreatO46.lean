import Derived.Test.YthfjgpjcepmnmaaGreatO45
import Derived.Test.YthfjgpjcepmnmaaGreatO25
import Derived.Test.YthfjgpjcepmnmaaGreatO27
import Derived.Test.YthfjgpjcepmnmaaGreatO34
namespace Go.Proofs.YthfjgpjcepmnmaaGreat
set_option maxRecDepth 100000
set_option maxHeartbeats 4000000
open Go.RowKit Go.Shelf
def lu (S:List Sd) (s:Sd):Bool:=decide (0≤Lib.idxBy dQ S s)
theorem xl (p:Option Addr) (c:Nat) (s:Sd) (w:World):Calls Tryz.prog 93 #[.slice p 0 c,.agg (sdc s).toArray] w fun e w'=>e=.returned (.int .i64 (-1))∧w.grownBy w' none:=by
 unfold sdc
 go_enter Tryz.func93,Tryz.ntmps93
 go_wp2_with fail
 refine wp_loop_rounds 1 ?_
 rw[rounds_succ]
 go_wp2
 go_ret
 exact⟨rfl,World.grownBy_alloc _ _ none⟩
theorem ut (v:Value) (S:List Sd) (s:Sd) (w:World) (A:sdR.At w v S):Calls Tryz.prog 93 #[v,.agg (sdc s).toArray] w fun e w'=>e=.returned (.int .i64 (Lib.idxBy dQ S s))∧w.grownBy w' none:=by
 by_cases h0:0<S.length
 ·exact qY v S s w A h0
 ·have e1:S=[]:=List.length_eq_zero_iff.1 (by omega)
  subst e1
  obtain⟨p,cap,rfl⟩:=A.form
  exact xl p cap s w
theorem nM (v:Value) (S:List Sd) (s:Sd) (w:World) (A:sdR.At w v S):Calls Tryz.prog 87 #[v,sdv s] w fun e w'=>e=.returned (.bool (lu S s))∧w.grownBy w' none:=by
 obtain⟨V,hV⟩:∃ V,V=w.alloc (.cells #[.int .i64 s.th,.int .i64 s.pl,.int .u8 s.wh.wn,.int .u8 s.wh.vb,.int .u8 s.wh.wm,.int .i64 s.wh.ct,.int .u8 s.wh.su,.int .u8 s.wh.tr,.int .u8 s.wh.mr,.string s.wh.nm] 40):=⟨_,rfl⟩
 have HG:Hid (w.grownBy V none):=by rw[hV];exact World.grownBy_alloc _ _ none
 have HS:Hid (SdB V w.heap.size s):=by rw[hV];exact ai w _ _
 have C:=ut v S s V (A.keep HG.out)
 obtain⟨pv,cv,rfl⟩:=A.form
 obtain⟨x,hx⟩:∃ x,x=Lib.idxBy dQ S s:=⟨_,rfl⟩
 have HX:Hid (lu S s=decide (0≤x)):=by rw[hx];rfl
 rw[←hx] at C
 unfold sdc at C
 unfold sdv
 clear A hx
 go_enter Tryz.func87,Tryz.ntmps87
 go_upto_region 1 with fail
 rw[←hV]
 clear hV
 obtain⟨n0,hn0⟩:∃ n0,n0=w.heap.size:=⟨_,rfl⟩
 simp only[←hn0] at HS ⊢
 clear hn0
 obtain⟨s0,s1,s2,s3,s4,s5,s6,s7,s8,s9⟩:=aT HS.out
 go_wp2_with fail
 refine C.mono ?_
 rintro e1 w1 ⟨rfl,g1⟩
 have HG1:Hid (V.grownBy w1 none):=g1
 clear C g1 s0 s1 s2 s3 s4 s5 s6 s7 s8 s9
 go_wp2_with fail
 go_ret
 exact⟨aJ HX.out.symm,aa HG.out HG1.out⟩
def nR (r n:Int) (cd:Int→Hd×List Pt) (ts:List Th) (F:List Fe) (s:Sd) (h:Hp):Bool:=decide (laE r n cd ts F h=0) && (lu (swT r n cd ts F) s && jk cd ts F s h)
theorem sQ (s:Sd):∀ (S:List Sd) (i:Nat),0≤Lib.idxByFrom dQ s S i→s∈S
 | [],i,h=>by
  rw[Lib.idxByFrom] at h
  omega
 | y :: S,i,h=>by
  rw[Lib.idxByFrom] at h
  by_cases e:dQ s y=true
  ·rw[eO.1 e]
   exact List.mem_cons_self
  ·rw[if_neg e] at h
   exact List.mem_cons_of_mem _ (sQ s S (i+1) h)
theorem tv (s:Sd):∀ (S:List Sd) (i:Nat),s∈S→0≤Lib.idxByFrom dQ s S i
 | [],i,h=>by simp at h
 | y :: S,i,h=>by
  rw[Lib.idxByFrom]
  by_cases e:dQ s y=true
  ·rw[if_pos e]
   omega
  ·rw[if_neg e]
   rcases List.mem_cons.1 h with h | h
   ·exact absurd (eO.2 h) e
   ·exact tv s S (i+1) h
theorem oC {S:List Sd} {s:Sd}:lu S s=true↔s∈S:=⟨fun h=>sQ s S 0 (of_decide_eq_true h),fun h=>decide_eq_true (tv s S 0 h)⟩
def ph (r n:Int) (cd:Int→Hd×List Pt) (ts:List Th) (F:List Fe) (h:Hp) (S:List Sd):Option Sd:=if laE r n cd ts F h=0 then fl cd ts F (swT r n cd ts F) h S else none
theorem tF (bv vt vf:Value) (r n:Int) (cd:Int→Hd×List Pt) (ts:List Th) (F:List Fe) (s:Sd) (h:Hp) (w:World) (I:SIn w bv vt vf r n cd ts F) (hb:∃ a,bv=.pointer a):Calls Tryz.prog 31 #[bv,vt,vf,sdv s,hpv h] w fun e w'=>e=.returned (.bool (nR r n cd ts F s h))∧w.grownBy w' none:=by
 obtain⟨ba,rfl⟩:=hb
 obtain⟨pt,ct,rfl⟩:=I.li.things.form
 obtain⟨pf,cf,rfl⟩:=I.li.feats.form
 obtain⟨W0,hW0⟩:∃ W0,W0=w.alloc (.cells #[.int .i64 s.th,.int .i64 s.pl,.int .u8 s.wh.wn,.int .u8 s.wh.vb,.int .u8 s.wh.wm,.int .i64 s.wh.ct,.int .u8 s.wh.su,.int .u8 s.wh.tr,.int .u8 s.wh.mr,.string s.wh.nm] 40):=⟨_,rfl⟩
 obtain⟨W1,hW1⟩:∃ W1,W1=W0.alloc (.cells #[.int .u8 h.vb,.int .i64 h.on,.int .i64 h.ct,.int .i64 h.ho,.bool h.vn,.bool h.dr] 43):=⟨_,rfl⟩
 have g0:w.grownBy W0 none:=by rw[hW0];exact World.grownBy_alloc _ _ none
 have g1:W0.grownBy W1 none:=by rw[hW1];exact World.grownBy_alloc _ _ none
 have e0:W0.heap.size=w.heap.size+1:=by rw[hW0,World.size_alloc]
 have HG1:Hid (w.grownBy W1 none):=aa g0 g1
 have HS:Hid (SdB W1 w.heap.size s):=ae g1 (by rw[hW0];exact ai w _ _) (by simp)
 have HH:Hid (HpB W1 (w.heap.size+1) h):=by rw[←e0,hW1];exact ai _ _ _
 have HI:Hid (SIn W1 (.pointer ba) (.slice pt ts.length ct) (.slice pf F.length cf) r n cd ts F):=I.keep HG1.out
 have CL:=ix (.pointer ba) _ _ r n cd ts F h W1 HI.out ⟨ba,rfl⟩
 unfold iO hpv at CL
 have hW1':W1=(w.alloc (.cells #[.int .i64 s.th,.int .i64 s.pl,.int .u8 s.wh.wn,.int .u8 s.wh.vb,.int .u8 s.wh.wm,.int .i64 s.wh.ct,.int .u8 s.wh.su,.int .u8 s.wh.tr,.int .u8 s.wh.mr,.string s.wh.nm] 40)).alloc (.cells #[.int .u8 h.vb,.int .i64 h.on,.int .i64 h.ct,.int .i64 h.ho,.bool h.vn,.bool h.dr] 43):=by rw[hW1,hW0]
 unfold hpv sdv
 clear I hW0 hW1 g0 g1 e0
 go_enter Tryz.func31,Tryz.ntmps31
 go_upto_region 1 with fail
 rw[←hW1']
 clear hW1'
 obtain⟨n0,hn0⟩:∃ n0,n0=w.heap.size:=⟨_,rfl⟩
 simp only[←hn0] at HH HS ⊢
 obtain⟨n1,hn1⟩:∃ n1,n1=n0+1:=⟨_,rfl⟩
 simp only[←hn1] at HH ⊢
 clear hn0 hn1
 obtain⟨x0,x1,x2,x3,x4,x5⟩:=aL HH.out
 go_wp2_with fail
 refine CL.mono ?_
 rintro e2 w2 ⟨a,p1,m1,c1,p2,m2,c2,p3,m3,c3,rfl,g2,h2⟩
 obtain⟨q,hq⟩:∃ q,q=laE r n cd ts F h:=⟨_,rfl⟩
 have Hq:Hid (q=laE r n cd ts F h):=hq
 rw[←hq]
 obtain⟨V,hV⟩:∃ V,V=w2.alloc (.cells #[.pointer a,.slice p1 m1 c1,.slice p2 m2 c2,.slice p3 m3 c3] 136):=⟨_,rfl⟩
 have gV:w2.grownBy V none:=by rw[hV];exact World.grownBy_alloc _ _ none
 have HV:Hid (W1.grownBy V none∧w.grownBy V none∧HpB V n1 h∧SdB V n0 s∧bY V w2.heap.size (.pointer a) (.slice p1 m1 c1) (.slice p2 m2 c2) (.slice p3 m3 c3)):=⟨aa g2 gV,aa HG1.out (aa g2 gV),ae (aa g2 gV) HH.out (by simp),ae (aa g2 gV) HS.out (by simp),by rw[hV];exact ai _ _ _⟩
 have H2:Hid (∀ R,r=0→bd n cd ts F=some R→bw ts h=true→.pointer a=Value.pointer ba∧.slice p1 m1 c1=Value.slice pt ts.length ct∧.slice p2 m2 c2=Value.slice pf F.length cf∧bi V W1.heap.size (.slice p3 m3 c3) (swL R F)):=fun R x y z=>by
  obtain⟨k1,k2,k3,k4⟩:=h2 R x y z
  exact⟨k1,k2,k3,aA k4 gV⟩
 clear CL g2 h2 hq gV x0 x1 x2 x3 x4 x5
 go_upto_region 2 with fail
 rw[←hV]
 obtain⟨n2,hn2⟩:∃ n2,n2=w2.heap.size:=⟨_,rfl⟩
 rw[←hn2] at HV ⊢
 clear hV hn2
 by_cases hq0:q=0
 case neg =>
  have k0:(q != 0)=true:=by simpa using hq0
  have HE:Hid (nR r n cd ts F s h=false):=by show _=_;unfold nR;rw[←Hq.out,decide_eq_false hq0,Bool.false_and]
  clear hq0 H2
  go_wp2_with fail
  go_ret
  exact⟨aJ HE.out.symm,HV.out.2.1⟩
 have k0:(q != 0)=false:=by simpa using hq0
 have hla:=ry (Hq.out.symm.trans hq0)
 obtain⟨hr,R,hR,hT⟩:=jl hla.1
 obtain⟨k1,k2,k3,k4⟩:=H2.out R hr hR hla.2
 have HT:Hid (nR r n cd ts F s h=(lu (swL R F) s && jk cd ts F s h)∧bw ts h=true):=⟨by unfold nR;rw[decide_eq_true (Hq.out.symm.trans hq0),Bool.true_and,ke hla.1 hR],hla.2⟩
 have HN:Hid (∀ X,V.grownBy X none→NIn X (.pointer a) (.slice p1 m1 c1) (.slice p2 m2 c2) (.slice p3 m3 c3) n cd ts F (swL R F)):=fun X qx=>by
  rw[k1,k2,k3]
  exact HI.out.scene hr hT (aa HV.out.1 qx) (aA k4 qx)
 have CC:=nM _ (swL R F) s V (HN.out V (aq _ _)).at3
 unfold sdv at CC
 clear hq0 hla hr hR hT k1 k2 k3 k4 H2
 obtain⟨b,hb⟩:∃ b,b=lu (swL R F) s:=⟨_,rfl⟩
 have Hb:Hid (b=lu (swL R F) s):=hb
 rw[←hb] at CC
 clear hb
 obtain⟨t0,t1,t2,t3⟩:=aR HV.out.2.2.2.2
 obtain⟨s0,s1,s2,s3,s4,s5,s6,s7,s8,s9⟩:=aT HV.out.2.2.2.1
 go_wp2_with fail
 refine CC.mono ?_
 rintro e4 w4 ⟨rfl,g4⟩
 have H4:Hid (V.grownBy w4 none∧HpB w4 n1 h∧SdB w4 n0 s∧bY w4 n2 (.pointer a) (.slice p1 m1 c1) (.slice p2 m2 c2) (.slice p3 m3 c3)):=⟨g4,ae g4 HV.out.2.2.1 (by simp),ae g4 HV.out.2.2.2.1 (by simp),ae g4 HV.out.2.2.2.2 (by simp)⟩
 clear CC g4 t0 t1 t2 t3 s0 s1 s2 s3 s4 s5 s6 s7 s8 s9
 cases b with
 | false =>
  have HE:Hid (nR r n cd ts F s h=false):=by show _=_;rw[HT.out.1,←Hb.out,Bool.false_and]
  go_wp2_with fail
  go_ret
  exact⟨aJ HE.out.symm,aa HV.out.2.1 H4.out.1⟩
 | true =>
  obtain⟨z,fz,A,-⟩:=(HN.out w4 H4.out.1).one ((HN.out w4 H4.out.1).ok s (oC.1 Hb.out.symm))
  have CS:=lH _ _ _ (.slice p3 m3 c3) n cd ts F s z fz h w4 A HT.out.2
  have HE:Hid (nR r n cd ts F s h=jk cd ts F s h):=by show _=_;rw[HT.out.1,←Hb.out,Bool.true_and]
  unfold ch sdv hpv at CS
  clear A
  obtain⟨t0,t1,t2,t3⟩:=aR H4.out.2.2.2
  obtain⟨s0,s1,s2,s3,s4,s5,s6,s7,s8,s9⟩:=aT H4.out.2.2.1
  obtain⟨x0,x1,x2,x3,x4,x5⟩:=aL H4.out.2.1
  go_wp2_with fail
  refine CS.mono ?_
  rintro e5 w5 ⟨rfl,g5⟩
  have HG5:Hid (w.grownBy w5 none):=aa HV.out.2.1 (aa H4.out.1 g5)
  clear CS g5
  go_wp2_with fail
  go_ret
  exact⟨aJ HE.out.symm,HG5.out⟩
theorem yC (bv vt vf vu:Value) (r n:Int) (cd:Int→Hd×List Pt) (ts:List Th) (F:List Fe) (h:Hp) (S:List Sd) (w:World) (I:SIn w bv vt vf r n cd ts F) (AU:sdR.At w vu S) (hb:∃ a,bv=.pointer a):Calls Tryz.prog 28 #[bv,vt,vf,hpv h,vu] w fun e w'=>e=.returned (.tuple #[hpv (tz F h (ph r n cd ts F h S)),sdv (yO (ph r n cd ts F h S)),.bool (ph r n cd ts F h S).isSome])∧w.grownBy w' none:=by
 obtain⟨ba,rfl⟩:=hb
 obtain⟨pt,ct,rfl⟩:=I.li.things.form
 obtain⟨pf,cf,rfl⟩:=I.li.feats.form
 obtain⟨pu,cu,rfl⟩:=AU.form
 obtain⟨W0,hW0⟩:∃ W0,W0=w.alloc (.cells #[.int .u8 h.vb,.int .i64 h.on,.int .i64 h.ct,.int .i64 h.ho,.bool h.vn,.bool h.dr] 43):=⟨_,rfl⟩
 obtain⟨W1,hW1⟩:∃ W1,W1=W0.alloc (.cells #[.int .u8 0,.int .i64 0,.int .i64 0,.int .i64 0,.bool false,.bool false] 43):=⟨_,rfl⟩
 obtain⟨W2,hW2⟩:∃ W2,W2=W1.alloc (.cells #[.int .i64 0,.int .i64 0,.int .u8 0,.int .u8 0,.int .u8 0,.int .i64 0,.int .u8 0,.int .u8 0,.int .u8 0,.string ⟨#[]⟩] 40):=⟨_,rfl⟩
 have g0:w.grownBy W0 none:=by rw[hW0];exact World.grownBy_alloc _ _ none
 have g1:W0.grownBy W1 none:=by rw[hW1];exact World.grownBy_alloc _ _ none
 have g2:W1.grownBy W2 none:=by rw[hW2];exact World.grownBy_alloc _ _ none
 have e0:W0.heap.size=w.heap.size+1:=by rw[hW0,World.size_alloc]
 have e1:W1.heap.size=w.heap.size+1+1:=by rw[hW1,World.size_alloc,e0]
 have HG1:Hid (w.grownBy W2 none):=aa (aa g0 g1) g2
 have HH:Hid (HpB W2 w.heap.size h):=ae (aa g1 g2) (by rw[hW0];exact ai w _ _) (by simp)
 have HZ:Hid (HpB W2 (w.heap.size+1) Hp.none):=ae g2 (by rw[←e0,hW1];exact ai _ _ _) (by simp)
 have HY:Hid (SdB W2 (w.heap.size+1+1) Sd.none):=by rw[←e1,hW2];exact ai _ _ _
 have HI:Hid (SIn W2 (.pointer ba) (.slice pt ts.length ct) (.slice pf F.length cf) r n cd ts F∧sdR.At W2 (.slice pu S.length cu) S):=⟨I.keep HG1.out,AU.keep HG1.out⟩
 have CL:=ix (.pointer ba) _ _ r n cd ts F h W2 HI.out.1 ⟨ba,rfl⟩
 unfold iO hpv at CL
 have hW':W2=((w.alloc (.cells #[.int .u8 h.vb,.int .i64 h.on,.int .i64 h.ct,.int .i64 h.ho,.bool h.vn,.bool h.dr] 43)).alloc (.cells #[.int .u8 0,.int .i64 0,.int .i64 0,.int .i64 0,.bool false,.bool false] 43)).alloc (.cells #[.int .i64 0,.int .i64 0,.int .u8 0,.int .u8 0,.int .u8 0,.int .i64 0,.int .u8 0,.int .u8 0,.int .u8 0,.string ⟨#[]⟩] 40):=by rw[hW2,hW1,hW0]
 obtain⟨m,hm⟩:∃ m,m=S.length:=⟨_,rfl⟩
 rw[←hm] at HI ⊢
 clear hm
 unfold hpv
 clear I AU hW0 hW1 hW2 g0 g1 g2 e0 e1
 go_enter Tryz.func28,Tryz.ntmps28
 go_upto_region 1 with fail
 rw[←hW']
 clear hW'
 obtain⟨n0,hn0⟩:∃ n0,n0=w.heap.size:=⟨_,rfl⟩
 have Hn0:Hid (w.heap.size≤n0):=by rw[hn0];exact Nat.le_refl _
 simp only[←hn0] at HH HZ HY ⊢
 obtain⟨n1,hn1⟩:∃ n1,n1=n0+1:=⟨_,rfl⟩
 simp only[←hn1] at HZ HY ⊢
 obtain⟨n2,hn2⟩:∃ n2,n2=n1+1:=⟨_,rfl⟩
 simp only[←hn2] at HY ⊢
 have Hne:Hid (n1≠n2∧w.heap.size≤n1∧w.heap.size≤n2):=⟨by omega,by have:=Hn0.out;omega,by have:=Hn0.out;omega⟩
 clear hn0 hn1 hn2
 obtain⟨x0,x1,x2,x3,x4,x5⟩:=aL HH.out
 go_wp2_with fail
 refine CL.mono ?_
 rintro e2 w2 ⟨a,p1,m1,c1,p2,m2,c2,p3,m3,c3,rfl,g2,h2⟩
 obtain⟨q,hq⟩:∃ q,q=laE r n cd ts F h:=⟨_,rfl⟩
 have Hq:Hid (q=laE r n cd ts F h):=hq
 rw[←hq]
 obtain⟨V,hV⟩:∃ V,V=w2.alloc (.cells #[.pointer a,.slice p1 m1 c1,.slice p2 m2 c2,.slice p3 m3 c3] 136):=⟨_,rfl⟩
 have gV:w2.grownBy V none:=by rw[hV];exact World.grownBy_alloc _ _ none
 have HV:Hid (W2.grownBy V none∧w.grownBy V none∧HpB V n0 h∧HpB V n1 Hp.none∧SdB V n2 Sd.none∧bY V w2.heap.size (.pointer a) (.slice p1 m1 c1) (.slice p2 m2 c2) (.slice p3 m3 c3)):=⟨aa g2 gV,aa HG1.out (aa g2 gV),ae (aa g2 gV) HH.out (by simp),ae (aa g2 gV) HZ.out (by simp),ae (aa g2 gV) HY.out (by simp),by rw[hV];exact ai _ _ _⟩
 have H2:Hid (∀ R,r=0→bd n cd ts F=some R→bw ts h=true→.pointer a=Value.pointer ba∧.slice p1 m1 c1=Value.slice pt ts.length ct∧.slice p2 m2 c2=Value.slice pf F.length cf∧bi V W2.heap.size (.slice p3 m3 c3) (swL R F)):=fun R x y z=>by
  obtain⟨k1,k2,k3,k4⟩:=h2 R x y z
  exact⟨k1,k2,k3,aA k4 gV⟩
 clear CL g2 h2 hq gV x0 x1 x2 x3 x4 x5
 go_upto_region 2 with fail
 rw[←hV]
 obtain⟨n3,hn3⟩:∃ n3,n3=w2.heap.size:=⟨_,rfl⟩
 rw[←hn3] at HV ⊢
 clear hV hn3
 by_cases hq0:q=0
 case neg =>
  have k0:(q != 0)=true:=by simpa using hq0
  have HE:Hid (ph r n cd ts F h S=none):=if_neg (fun e=>hq0 (Hq.out.trans e))
  clear hq0 H2
  obtain⟨W5,hW5⟩:∃ W5,W5=V.setRow n1 (hpa Hp.none):=⟨_,rfl⟩
  have H5:Hid (HpB W5 n1 Hp.none∧SdB W5 n2 Sd.none∧w.grownBy W5 none):=⟨by rw[hW5];exact setRow_heap V n1 _ _ _ _ HV.out.2.2.2.1,by rw[hW5];exact ae (aO _ _ _) HV.out.2.2.2.2.1 (fun q=>Hne.out.1 (Option.some.inj q).symm),by rw[hW5];exact am HV.out.2.1 (aO _ _ _) (fun y e=>by cases e;exact Hne.out.2.1)⟩
  obtain⟨W6,hW6⟩:∃ W6,W6=W5.setRow n2 (sda Sd.none):=⟨_,rfl⟩
  have H6:Hid (HpB W6 n1 Hp.none∧SdB W6 n2 Sd.none∧w.grownBy W6 none):=⟨by rw[hW6];exact ae (aO _ _ _) H5.out.1 (fun q=>Hne.out.1 (Option.some.inj q)),by rw[hW6];exact setRow_heap W5 n2 _ _ _ _ H5.out.2.1,by rw[hW6];exact am H5.out.2.2 (aO _ _ _) (fun y e=>by cases e;exact Hne.out.2.2)⟩
  go_wp2_with (first | (refine wpList_store_row rfl 43 (.tmp 10) (.tmp 25) rfl n1 (hpa Hp.none) rfl rfl 43 _ HV.out.2.2.2.1 (by kernel_rfl) rfl (by simp[hpa,Value.oneCell']) ?_) | (refine wpList_store_row rfl 40 (.tmp 11) (.tmp 26) rfl n2 (sda Sd.none) rfl rfl 40 _ (by rw[←hW5];exact H5.out.2.1) (by kernel_rfl) rfl (by simp[sda,Value.oneCell']) ?_))
  rw[←hW5,←hW6]
  clear hW5 hW6 H5
  obtain⟨y0,y1,y2,y3,y4,y5⟩:=di H6.out.1
  obtain⟨z0,z1,z2,z3,z4,z5,z6,z7,z8,z9⟩:=pE H6.out.2.1
  refine bodyPost_ret (v:=.tuple #[hpv Hp.none,sdv Sd.none,.bool false]) (by simp[results,Tryz.results28,go_sem,hpv,sdv,Hp.none,Sd.none,Pt.none,y0,y1,y2,y3,y4,y5,z0,z1,z2,z3,z4,z5,z6,z7,z8,z9]) rfl ⟨by rw[HE.out];rfl,H6.out.2.2⟩
 have k0:(q != 0)=false:=by simpa using hq0
 have hla:=ry (Hq.out.symm.trans hq0)
 obtain⟨hr,R,hR,hT⟩:=jl hla.1
 obtain⟨k1,k2,k3,k4⟩:=H2.out R hr hR hla.2
 have HE:Hid (ph r n cd ts F h S=fl cd ts F (swL R F) h S):=by show _=_;unfold ph;rw[if_pos (Hq.out.symm.trans hq0),ke hla.1 hR]
 have HN:NIn V (.pointer a) (.slice p1 m1 c1) (.slice p2 m2 c2) (.slice p3 m3 c3) n cd ts F (swL R F):=by
  rw[k1,k2,k3]
  exact HI.out.1.scene hr hT HV.out.1 k4
 have CN:=nU _ _ _ _ _ n cd ts F (swL R F) S h V HN (HI.out.2.keep HV.out.1) hla.2
 obtain⟨o,ho⟩:∃ o,o=fl cd ts F (swL R F) h S:=⟨_,rfl⟩
 rw[←ho] at HE CN
 obtain⟨X,hX⟩:∃ X,X=tz F h o:=⟨_,rfl⟩
 obtain⟨Y,hY⟩:∃ Y,Y=yO o:=⟨_,rfl⟩
 obtain⟨z,hz⟩:∃ z,z=o.isSome:=⟨_,rfl⟩
 have HXY:Hid (X=tz F h o∧Y=yO o∧z=o.isSome):=⟨hX,hY,hz⟩
 rw[←hX,←hY,←hz] at CN
 unfold ch hpv sdv at CN
 clear hq0 hla hr hR hT k1 k2 k3 k4 H2 HN ho hX hY hz
 obtain⟨t0,t1,t2,t3⟩:=aR HV.out.2.2.2.2.2
 obtain⟨x0,x1,x2,x3,x4,x5⟩:=aL HV.out.2.2.1
 go_wp2_with fail
 refine CN.mono ?_
 rintro e5 w5 ⟨rfl,g5⟩
 have H7:Hid (w.grownBy w5 none∧HpB w5 n1 Hp.none∧SdB w5 n2 Sd.none):=⟨aa HV.out.2.1 g5,ae g5 HV.out.2.2.2.1 (by simp),ae g5 HV.out.2.2.2.2.1 (by simp)⟩
 clear CN g5 t0 t1 t2 t3 x0 x1 x2 x3 x4 x5
 obtain⟨W5,hW5⟩:∃ W5,W5=w5.setRow n1 (hpa X):=⟨_,rfl⟩
 have H5:Hid (HpB W5 n1 X∧SdB W5 n2 Sd.none∧w.grownBy W5 none):=⟨by rw[hW5];exact setRow_heap w5 n1 _ _ _ _ H7.out.2.1,by rw[hW5];exact ae (aO _ _ _) H7.out.2.2 (fun q=>Hne.out.1 (Option.some.inj q).symm),by rw[hW5];exact am H7.out.1 (aO _ _ _) (fun y e=>by cases e;exact Hne.out.2.1)⟩
 obtain⟨W6,hW6⟩:∃ W6,W6=W5.setRow n2 (sda Y):=⟨_,rfl⟩
 have H6:Hid (HpB W6 n1 X∧SdB W6 n2 Y∧w.grownBy W6 none):=⟨by rw[hW6];exact ae (aO _ _ _) H5.out.1 (fun q=>Hne.out.1 (Option.some.inj q)),by rw[hW6];exact setRow_heap W5 n2 _ _ _ _ H5.out.2.1,by rw[hW6];exact am H5.out.2.2 (aO _ _ _) (fun y e=>by cases e;exact Hne.out.2.2)⟩
 go_wp2_with (refine wpList_store_row rfl 43 (.tmp 10) (.tmp 31) rfl n1 (hpa X) rfl rfl 43 _ H7.out.2.1 (by kernel_rfl) rfl (by simp[hpa,Value.oneCell']) ?_;rw[←hW5];refine wpList_store_row rfl 40 (.tmp 11) (.tmp 32) rfl n2 (sda Y) rfl rfl 40 _ H5.out.2.1 (by kernel_rfl) rfl (by simp[sda,Value.oneCell']) ?_)
 rw[←hW5,←hW6]
 clear hW5 hW6 H5
 obtain⟨y0,y1,y2,y3,y4,y5⟩:=aL H6.out.1
 obtain⟨z0,z1,z2,z3,z4,z5,z6,z7,z8,z9⟩:=aT H6.out.2.1
 refine bodyPost_ret (v:=.tuple #[hpv X,sdv Y,.bool z]) (by simp[results,Tryz.results28,go_sem,hpv,sdv,y0,y1,y2,y3,y4,y5,z0,z1,z2,z3,z4,z5,z6,z7,z8,z9]) rfl ⟨by rw[HE.out,HXY.out.1,HXY.out.2.1,HXY.out.2.2];rfl,H6.out.2.2⟩
def ER (a b:Sd):Prop:=¬(a.th=b.th∧a.pl=b.pl)
theorem rO {F:List Fe} {r:Rw} {s:Sd} (h:s∈gO F r):s.th=r.nu:=by
 unfold gO at h
 split at h
 ·cases h
 ·unfold bQ at h
  obtain⟨i,_,rfl⟩:=List.mem_map.1 h
  rfl
theorem yA (F:List Fe) (r:Rw):(gO F r).Pairwise ER:=by
 unfold gO
 split
 ·exact List.Pairwise.nil
 ·unfold bQ
  exact List.Pairwise.map _ (fun a b h q=>h q.2) (jY r.ps 0 6)
theorem Cm {R:List Rw} {F:List Fe} (h:(R.map Rw.nu).Nodup):(swL R F).Pairwise ER:=by
 unfold swL
 rw[List.flatMap_def,List.pairwise_flatten]
 refine⟨fun l hl=>?_,?_⟩
 ·obtain⟨r,_,rfl⟩:=List.mem_map.1 hl
  exact yA F r
 ·rw[List.pairwise_map]
  have h2:=List.pairwise_map.1 h
  exact h2.imp fun {a b} hne x hx y hy q=>hne (by rw[←rO hx,←rO hy];exact q.1)
theorem EX {L:List Sd} (h:L.Pairwise ER):L.Nodup:=h.imp fun {a b} q e=>q (by rw[e];exact⟨rfl,rfl⟩)
theorem tX {α:Type}:∀ {l:List α},l.Nodup→∀ (i j:Nat) (a:α),l[i]?=some a→l[j]?=some a→i=j
 | [],_,i,j,a,h1,_=>by simp at h1
 | x :: l,h,0,0,a,h1,h2=>rfl
 | x :: l,h,0,j+1,a,h1,h2=>by
  simp at h1 h2
  subst h1
  exact absurd (List.mem_of_getElem? h2) (List.nodup_cons.1 h).1
 | x :: l,h,i+1,0,a,h1,h2=>by
  simp at h1 h2
  subst h2
  exact absurd (List.mem_of_getElem? h1) (List.nodup_cons.1 h).1
 | x :: l,h,i+1,j+1,a,h1,h2=>by
  simp at h1 h2
  rw[tX (List.nodup_cons.1 h).2 i j a h1 h2]
theorem vv:∀ {l m:List Sd},l.Nodup→(∀ a∈l,a∈m)→l.length≤m.length
 | [],m,_,_=>Nat.zero_le _
 | x :: l,m,h,q=>by
  obtain⟨u,v,e⟩:=List.append_of_mem (q x (List.mem_cons_self ..))
  have h2:=vv (l:=l) (m:=u++v) (List.nodup_cons.1 h).2 (fun a ha=>by
   have h3:=q a (List.mem_cons_of_mem _ ha)
   rw[e,List.mem_append,List.mem_cons] at h3
   rw[List.mem_append]
   rcases h3 with h3 | h3 | h3
   ·exact Or.inl h3
   ·exact absurd (h3 ▸ ha) (List.nodup_cons.1 h).1
   ·exact Or.inr h3)
  rw[e,List.length_cons,List.length_append,List.length_cons]
  rw[List.length_append] at h2
  omega
def atN (F:List Fe) (h:Hp) (us:List Sd) (k:Nat):Hp:=(us.take k).foldl (fun a s=>ia F s a) h
theorem Ax (F:List Fe) (h:Hp) (us:List Sd) (s:Sd) {k:Nat} (hk:k≤us.length):atN F h (us++[s]) k=atN F h us k:=by unfold atN;rw[List.take_append_of_le_length hk]
theorem BM (F:List Fe) (h:Hp) (us:List Sd) (s:Sd):atN F h (us++[s]) (us.length+1)=ia F s (atN F h us us.length):=by
 unfold atN
 rw[List.take_of_length_le (by rw[List.length_append,List.length_singleton];exact Nat.le_refl _),List.take_length,List.foldl_append]
 rfl
theorem BK {F:List Fe} {h:Hp} {us:List Sd} {k:Nat} {s:Sd} (hs:us[k]?=some s):atN F h us (k+1)=ia F s (atN F h us k):=by
 unfold atN
 rw[List.take_add_one,hs,List.foldl_append]
 rfl
structure Way (cd:Int→Hd×List Pt) (ts:List Th) (F:List Fe) (L:List Sd) (h:Hp) (x:Ss):Prop where
 one:∀ (i:Nat) s,x.us[i]?=some s→fl cd ts F L (atN F h x.us i) (x.us.take i)=some s∧bw ts (atN F h x.us i)=true
 last:x.af=atN F h x.us x.us.length
 may:x.af=Hp.none∨bw ts x.af=true
 gone:x.us=[]→x.go=0∧x.li=0
theorem Way.begin (cd:Int→Hd×List Pt) (ts:List Th) (F:List Fe) (L:List Sd) {h:Hp} (hm:bw ts h=true):Way cd ts F L h (Ss.begin h):=⟨fun i s hs=>by simp[Ss.begin] at hs,rfl,Or.inr hm,fun _=>⟨rfl,rfl⟩⟩
theorem Way.more {cd:Int→Hd×List Pt} {ts:List Th} {F:List Fe} {L:List Sd} {h:Hp} {x:Ss} {s:Sd} (W:Way cd ts F L h x) (hz:¬x.af=Hp.none) (e:fl cd ts F L x.af x.us=some s) (hb:ia F s x.af=Hp.none∨bw ts (ia F s x.af)=true):Way cd ts F L h (x.more F h s):=by
 have e1:(x.more F h s).us=x.us++[s]:=rfl
 have e2:(x.more F h s).af=ia F s x.af:=rfl
 refine⟨fun i u hu=>?_,?_,?_,fun q=>?_⟩
 ·rw[e1] at hu ⊢
  have hi:i<(x.us++[s]).length:=(List.getElem?_eq_some_iff.1 hu).1
  rw[List.length_append,List.length_singleton] at hi
  rw[Ax F h x.us s (by omega),List.take_append_of_le_length (by omega)]
  by_cases hl:i<x.us.length
  ·rw[List.getElem?_append_left hl] at hu
   exact W.one i u hu
  ·obtain rfl:i=x.us.length:=by omega
   rw[List.getElem?_append_right (Nat.le_refl _),Nat.sub_self] at hu
   obtain rfl:s=u:=by simpa using hu
   rw[←W.last,List.take_length]
   exact⟨e,W.may.resolve_left hz⟩
 ·rw[e1,e2,List.length_append,List.length_singleton,BM,←W.last]
 ·rw[e2];exact hb
 ·rw[e1] at q;simp at q
theorem Way.run {cd:Int→Hd×List Pt} {ts:List Th} {F:List Fe} {L:List Sd} {h:Hp} (hok:∀ s∈L,AD F s∧(s.wh.vb=16→1≤s.wh.ct∧s.wh.ct≤99)):∀ (m:Nat) {x:Ss},Way cd ts F L h x→Way cd ts F L h (ig cd ts F L h m x)
 | 0,x,W=>W
 | m+1,x,W=>by
  unfold ig
  by_cases hz:x.af=Hp.none
  ·rw[if_pos hz];exact W
  ·rw[if_neg hz]
   cases e:fl cd ts F L x.af x.us with
   | none=>exact W
   | some s =>
    obtain⟨h1,h2,h3⟩:=jy e
    obtain⟨⟨z,g,a,b,c,d⟩,f⟩:=hok s h1
    have hf:ir ts s.wh x.af=true:=by unfold jk at h3;simp only[Bool.and_eq_true] at h3;exact h3.2
    exact Way.run hok m (W.more hz e (wi (W.may.resolve_left hz) d (by rw[qL a b];exact c) hf f))
structure qD (r n:Int) (cd:Int→Hd×List Pt) (ts:List Th) (F:List Fe) (h:Hp) (L:List Sd) (x:Ss):Prop where
 nod:L.Nodup
 few:L.length≤64∧x.us.length≤64
 one:∀ (i:Nat) s,x.us[i]?=some s→s∈L∧ph r n cd ts F (atN F h x.us i) (x.us.take i)=some s∧nR r n cd ts F s (atN F h x.us i)=true
 dif:x.us.Nodup
 fin:if h.vb=1∧x.us.length=0∧(h.ct<1∨x.go=1) then x.af=Hp.none else atN F h x.us x.us.length=x.af
theorem zu:∀ {us:List Sd},(∀ (i:Nat) s,us[i]?=some s→gB (us.take i) s=false)→us.Nodup:=by
 intro us h
 refine List.pairwise_iff_getElem.2 fun i j hi hj hij e=>?_
 have hj':us[j]?=some us[j]:=List.getElem?_eq_getElem hj
 have q:=h j _ hj'
 have hm:us[j]∈us.take j:=by
  refine List.mem_of_getElem? (i:=i) ?_
  rw[List.getElem?_take,if_pos hij,List.getElem?_eq_getElem hi,e]
 unfold gB at q
 rw[List.any_eq_false] at q
 exact q _ hm (by simp)
theorem qD.none {r n:Int} {cd:Int→Hd×List Pt} {ts:List Th} {F:List Fe} {h:Hp} {L:List Sd} (hn:L.Nodup) (hf:L.length≤64) (hv:h.vb=1) (g:Int) (hg:h.ct<1∨g=1):qD r n cd ts F h L ⟨Hp.none,[],g,0⟩:=⟨hn,⟨hf,Nat.zero_le _⟩,fun i s hs=>by simp at hs,List.nodup_nil,by rw[if_pos ⟨hv,rfl,hg⟩]⟩
theorem qD.of {r n:Int} {cd:Int→Hd×List Pt} {ts:List Th} {F:List Fe} {h:Hp} (hg:nk cd) (h4:∀ c,(cd c).2.length≤4) (hla:laE r n cd ts F h=0):qD r n cd ts F h (swT r n cd ts F) (fk r n cd ts F h):=by
 obtain⟨hb,hm⟩:=ry hla
 obtain⟨hr,R,hR,hT⟩:=jl hb
 have hL:swT r n cd ts F=swL R F:=ke hb hR
 have hok:∀ s∈swT r n cd ts F,AD F s∧(s.wh.vb=16→1≤s.wh.ct∧s.wh.ct≤99):=fun s hs=>tY hT hg (by rw[←hL];exact hs)
 have hnod:(swT r n cd ts F).Nodup:=by rw[hL];exact EX (Cm hT.nod)
 have hfew:(swT r n cd ts F).length≤64:=by rw[hL];exact AV hT h4
 unfold fk
 rw[if_neg (by rw[hla];simp)]
 by_cases hn:cG h=true
 ·rw[if_pos hn]
  unfold cG at hn
  simp only[Bool.and_eq_true,decide_eq_true_eq] at hn
  exact qD.none hnod hfew hn.1 0 (Or.inl hn.2)
 ·rw[if_neg hn]
  by_cases hs:(decide (h.vb=1) && jI cd ts h.on)=true
  ·rw[if_pos hs]
   simp only[Bool.and_eq_true,decide_eq_true_eq] at hs
   exact qD.none hnod hfew hs.1 1 (Or.inr rfl)
  ·rw[if_neg hs]
   obtain⟨x,hx⟩:∃ x,x=cW cd ts F (swT r n cd ts F) h (Ss.begin h):=⟨_,rfl⟩
   have W:Way cd ts F (swT r n cd ts F) h x:=by rw[hx];exact Way.run hok _ (Way.begin cd ts F _ hm)
   rw[←hx]
   have ho:∀ (i:Nat) s,x.us[i]?=some s→s∈swT r n cd ts F∧gB (x.us.take i) s=false∧jk cd ts F s (atN F h x.us i)=true:=fun i s hs=>jy (W.one i s hs).1
   have hd:x.us.Nodup:=zu fun i s hs=>(ho i s hs).2.1
   refine⟨hnod,⟨hfew,Nat.le_trans (vv hd fun a ha=>?_) hfew⟩,fun i s hs=>?_,hd,?_⟩
   ·obtain⟨i,hi⟩:=List.getElem?_of_mem ha
    exact(ho i a hi).1
   ·obtain⟨a1,a2⟩:=W.one i s hs
    have hl:laE r n cd ts F (atN F h x.us i)=0:=by unfold laE;rw[if_pos hb,if_pos a2]
    refine⟨(ho i s hs).1,?_,?_⟩
    ·unfold ph;rw[if_pos hl];exact a1
    ·unfold nR;rw[decide_eq_true hl,oC.2 (ho i s hs).1,(ho i s hs).2.2];rfl
   ·rw[if_neg,←W.last]
    rintro⟨q1,q2,q3⟩
    have:=(W.gone (List.eq_nil_of_length_eq_zero q2)).1
    rcases q3 with q3 | q3
    ·exact hn (by unfold cG;rw[decide_eq_true q1,decide_eq_true q3];rfl)
    ·omega
structure Ot (t u:Th):Prop where
 card:u.card=t.card
 owner:u.owner=t.owner
 place:u.place=t.place
 m2:u.m2=t.m2
 stamp:t.place=4→u.stamp=3*t.stamp+1∧1≤t.stamp
structure Ots (ts us:List Th):Prop where
 len:us.length=ts.length
 all:∀ (j:Nat) t u,ts[j]?=some t→us[j]?=some u→Ot t u
theorem DZ {n:Int} {t u:Th} (h:Ot t u):bH n u=bH n t:=by unfold bH;rw[h.card,h.owner,h.place]
theorem EA {t u:Th} {f:Fe} (h:Ot t u) (h4:t.place=4):aQ u f=aQ t f:=by
 unfold aQ
 obtain⟨h1,h2⟩:=h.stamp h4
 rw[h1,decide_eq_true (show 0<t.stamp by omega),decide_eq_true (show 0<3*t.stamp+1 by omega)]
theorem qd {n:Int} {cd:Int→Hd×List Pt}:∀ (l l':List (Th×Fe)) (i:Nat) (acc:List Rw),l.length=l'.length→(∀ (j:Nat) t f t' f',l[j]?=some (t,f)→l'[j]?=some (t',f')→Ot t t'∧f=f')→cZ n cd l' i (acc.map (tn 1))=(cZ n cd l i acc).map (List.map (tn 1))
 | [],[],_,_,_,_=>rfl
 | [],_ :: _,_,_,h,_=>by cases h
 | _ :: _,[],_,_,h,_=>by cases h
 | (t,f) :: r,(t',f') :: r',i,acc,h,q=>by
  obtain⟨s,rfl⟩:=q 0 t f t' f' rfl rfl
  have q1:∀ (j:Nat) a b' c d,r[j]?=some (a,b')→r'[j]?=some (c,d)→Ot a c∧b'=d:=fun j a b' c d h1 h2=>q (j+1) a b' c d h1 h2
  have hl:r.length=r'.length:=by simpa using h
  have e1:=qd (n:=n) (cd:=cd) r r' (i+1) acc hl q1
  have e2:=qd (n:=n) (cd:=cd) r r' (i+1) (acc++[⟨(i:Int)+1,t.stamp,(cd t.card).1,(cd t.card).2⟩]) hl q1
  rw[List.map_append,List.map_singleton] at e2
  unfold cZ
  by_cases h4:t.place=4
  ·rw[DZ s,s.place,EA s h4,s.card,(s.stamp h4).1,List.length_map,e1]
   have e3:tn 1 ⟨(i:Int)+1,t.stamp,(cd t.card).1,(cd t.card).2⟩=⟨(i:Int)+1,3*t.stamp+1,(cd t.card).1,(cd t.card).2⟩:=rfl
   rw[e3] at e2
   rw[e2]
   split
   ·rfl
   ·split
    ·rfl
    ·split
     ·rfl
     ·split
      ·rfl
      ·rfl
  ·rw[DZ s,s.place,e1]
   rw[if_pos h4,if_pos h4]
   split
   ·rfl
   ·rfl
theorem zo {n:Int} {cd:Int→Hd×List Pt} {ts us:List Th} {fs:List Fe} (h:Ots ts us):bd n cd us fs=(bd n cd ts fs).map (List.map (tn 1)):=by
 have e:=qd (n:=n) (cd:=cd) (ts.zip fs) (us.zip fs) 0 [] (by rw[List.length_zip,List.length_zip,h.len]) (fun j t f t' f' a c=>by
  obtain⟨a1,a2⟩:=dC.1 a
  obtain⟨c1,c2⟩:=dC.1 c
  rw[a2] at c2
  exact⟨h.all j t t' a1 c1,Option.some.inj c2⟩)
 rw[List.map_nil] at e
 unfold bd
 rw[h.len,e]
 by_cases hl:ts.length=fs.length
 ·rw[if_pos hl,if_pos hl]
  cases cZ n cd (ts.zip fs) 0 [] with
  | none=>rfl
  | some acc =>
   simp only[Option.map_some]
   rw[zq,uk,wA]
   split
   ·rfl
   ·rfl
 ·rw[if_neg hl,if_neg hl];rfl
theorem EP (b:Int) (R:List Rw) (F:List Fe):swL (R.map (tn b)) F=swL R F:=by
 unfold swL
 rw[List.flatMap_map]
 rfl
theorem DQ {r n:Int} {cd:Int→Hd×List Pt} {ts us:List Th} {fs:List Fe} {k:Int} (h:Ots ts us):bgE r n cd us fs k=bgE r n cd ts fs k:=by
 have e:lkE r n cd us fs []=lkE r n cd ts fs []:=by
  unfold lkE
  rw[zo h]
  cases bd n cd ts fs with
  | none=>rfl
  | some R=>rfl
 unfold bgE
 rw[e]
theorem ET {r n:Int} {cd:Int→Hd×List Pt} {ts us:List Th} {F:List Fe} (h:Ots ts us):swT r n cd us F=swT r n cd ts F:=by
 unfold swT
 rw[DQ h,zo h]
 cases bd n cd ts F with
 | none=>rfl
 | some R=>simp only[Option.map_some];rw[EP]
theorem mo {ts us:List Th} (h:Ots ts us) (n:Int):(thN us n).card=(thN ts n).card∧(thN us n).place=(thN ts n).place∧(thN us n).m2=(thN ts n).m2:=by
 unfold thN
 rw[List.getD_eq_getElem?_getD,List.getD_eq_getElem?_getD]
 by_cases hj:(n - 1).toNat<ts.length
 ·have e1:ts[(n - 1).toNat]?=some ts[(n - 1).toNat]:=List.getElem?_eq_getElem hj
  have hj':(n - 1).toNat<us.length:=by rw[h.len];exact hj
  have e2:us[(n - 1).toNat]?=some us[(n - 1).toNat]:=List.getElem?_eq_getElem hj'
  have o:=h.all _ _ _ e1 e2
  rw[e1,e2]
  exact⟨o.card,o.place,o.m2⟩
 ·rw[List.getElem?_eq_none (show us.length≤_ by rw[h.len];omega),List.getElem?_eq_none (show ts.length≤_ by omega)]
  exact⟨rfl,rfl,rfl⟩
theorem Dy {ts us:List Th} (h:Ots ts us) (n:Int):ej us n=ej ts n:=by unfold ej;rw[h.len,(mo h n).2.1]
theorem EW {ts us:List Th} (h:Ots ts us) (a:Hp):bw us a=bw ts a:=by unfold bw;rw[Dy h]
theorem DS {r n:Int} {cd:Int→Hd×List Pt} {ts us:List Th} {F:List Fe} (h:Ots ts us) (a:Hp):laE r n cd us F a=laE r n cd ts F a:=by unfold laE;rw[DQ h,EW h]
theorem zv {cd:Int→Hd×List Pt} {ts us:List Th} (h:Ots ts us) (n:Int):jR cd (thN us n)=jR cd (thN ts n):=by unfold jR;rw[(mo h n).1,(mo h n).2.1]
theorem Ei {cd:Int→Hd×List Pt} {ts us:List Th} (h:Ots ts us) (n:Int):jI cd us n=jI cd ts n:=by unfold jI;rw[zv h,(mo h n).2.2]
theorem Fg {cd:Int→Hd×List Pt} {ts us:List Th} {F:List Fe} (h:Ots ts us) (s:Sd) (a:Hp):jk cd us F s a=jk cd ts F s a:=by
 unfold jk iy ir
 rw[zv h,(mo h _).2.2]
theorem Es {cd:Int→Hd×List Pt} {ts us:List Th} {F:List Fe} (h:Ots ts us) (L:List Sd) (a:Hp) (S:List Sd):fl cd us F L a S=fl cd ts F L a S:=by
 unfold fl
 congr 1
 funext s
 unfold nG
 rw[Fg h]
theorem vC {cd:Int→Hd×List Pt} {ts us:List Th} {F:List Fe} (h:Ots ts us) (L:List Sd) (a:Hp):∀ (m:Nat) (x:Ss),ig cd us F L a m x=ig cd ts F L a m x
 | 0,x=>rfl
 | m+1,x=>by
  unfold ig
  rw[Es h]
  split
  ·rfl
  ·cases fl cd ts F L x.af x.us with
   | none=>rfl
   | some s=>exact vC h L a m _
theorem Cq {r n:Int} {cd:Int→Hd×List Pt} {ts us:List Th} {F:List Fe} (h:Ots ts us) (a:Hp):fk r n cd us F a=fk r n cd ts F a:=by
 unfold fk
 rw[DS h,Ei h,ET h]
 unfold cW
 rw[vC h]
end Go.Proofs.YthfjgpjcepmnmaaGreat
