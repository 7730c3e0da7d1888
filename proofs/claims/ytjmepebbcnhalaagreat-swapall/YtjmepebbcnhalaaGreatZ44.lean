import Derived.Test.YtjmepebbcnhalaaGreatZSwN
namespace Go.Proofs.YtjmepebbcnhalaaGreat
open Tryz
set_option maxRecDepth 100000
set_option maxHeartbeats 4000000
open Go.RowKit
variable {r n:Int} {cd:Int→Hd×List Pt} {ts:List Th} {F:List Fe} {R:List Rw} {w w':World} {bv vt vf vl:Value} {B:Nat} {h:Hp}
def laE (r n:Int) (cd:Int→Hd×List Pt) (ts:List Th) (F:List Fe) (h:Hp):Int:=if bgE r n cd ts F 1=0 then (if aK ts h=true then 0 else 2) else bgE r n cd ts F 1
def swT (r n:Int) (cd:Int→Hd×List Pt) (ts:List Th) (F:List Fe):List Sd:=if bgE r n cd ts F 1=0 then (match bI n cd ts F with | some R=>swL R F | none=>[]) else []
theorem kl (hb:bgE r n cd ts F 1=0) (hR:bI n cd ts F=some R):swT r n cd ts F=swL R F:=by unfold swT;rw[if_pos hb,hR]
theorem Gr (hb:¬bgE r n cd ts F 1=0):swT r n cd ts F=[]:=by unfold swT;rw[if_neg hb]
theorem nO (hT:Tab n cd ts F R) (hg:kp cd) {s:Sd} (hs:s∈swL R F):qr F s∧(s.wh.vb=16→1≤s.wh.ct∧s.wh.ct≤99):=by
 unfold swL at hs;obtain⟨r,hr,hs⟩:=List.mem_flatMap.1 hs;obtain⟨j,t,ht,h4,e⟩:=hT.row hr;have hj:j<F.length:=by rw[←hT.len];exact(Qh ht).1
 obtain⟨f,hf⟩:∃ f,F[j]?=some f:=⟨_,Qg hj⟩
 have hm:=hT.may j t f ht hf h4;unfold kJ at hs;split at hs
 ·cases hs
 ·unfold cZ at hs;obtain⟨x,hx,e2⟩:=List.mem_map.1 hs;obtain⟨q,e3,hq,hw⟩:=pS r.ps 0 6 x hx;have hps:r.ps=(cd t.card).2:=by rw[e]
  have hin:s.wh∈(cd t.card).2:=by
   rw[←e2,e3];show r.ps.getD ((0+q:Nat):Int).toNat Pt.none∈_;rw[Qa8,Qc3,aG hq,←hps];exact Qab _
  have hw6:s.wh.wn=6:=by
   rw[←e2,e3];show (r.ps.getD ((0+q:Nat):Int).toNat Pt.none).wn=6;rw[Qa8,Qc3];exact hw
  obtain⟨g1,g2,g3⟩:=hg _ _ hin hw6;refine⟨⟨j,f,by rw[←e2,e],hf,?_,g1,g2⟩,fun q=>g3 (Or.inl q)⟩;unfold bq gh at hm;simp only[Bool.and_eq_true,Bool.or_eq_true,decide_eq_true_eq] at hm;exact hm.1.2
theorem D5 (hT:Tab n cd ts F R) (h4:∀ c,(cd c).2.length≤4):(swL R F).length≤64:=by
 have:=nf (F:=F) (hT.ps4 h4) R.length (Qj _);rw[sD] at this;have:=hT.few;omega
theorem SIn.scene (I:SIn w bv vt vf r n cd ts F) (hr:r=0) (hT:Tab n cd ts F R) (g:w.grownBy w' none) (O:aV w' B vl (swL R F)):NIn w' bv vt vf vl n cd ts F (swL R F):=⟨I.li.things.keep g,I.li.feats.keep g,aB.Own.at O,(I.card hr).keep g,hT.len,(I.li.book hr).2,fun j t ht=>by
  have hj:j<F.length:=by rw[←hT.len];exact(Qh ht).1
  exact sq (hT.mays ht (Qg hj)).1,fun s hs=>(nO hT I.good hs).1⟩
def jn (w:World) (bv vt vf:Value) (r n:Int) (cd:Int→Hd×List Pt) (ts:List Th) (F:List Fe) (h:Hp) (e:Ending) (w':World):Prop:=∃ a p1 m1 c1 p2 m2 c2 p3 m3 c3,e=.returned (.tuple #[.agg #[.pointer a,.slice p1 m1 c1,.slice p2 m2 c2,.slice p3 m3 c3],.int .i64 (laE r n cd ts F h)])∧w.grownBy w' none∧(∀ R,r=0→bI n cd ts F=some R→aK ts h=true→.pointer a=bv∧.slice p1 m1 c1=vt∧.slice p2 m2 c2=vf∧aV w' w.heap.size (.slice p3 m3 c3) (swL R F))
theorem jn.no {q:Int} (e:laE r n cd ts F h=q) (hq:q≠0) (g:w.grownBy w' none):jn w bv vt vf r n cd ts F h (.returned (.tuple #[.agg #[.pointer none,.slice none 0 0,.slice none 0 0,.slice none 0 0],.int .i64 q])) w':=⟨none,none,0,0,none,0,0,none,0,0,by rw[e],g,fun R h0 h1 h2=>by unfold laE at e;rw[h0,rQ h1 (by decide),if_pos rfl,if_pos h2] at e;exact absurd e.symm hq⟩
theorem lC (h:bgE r n cd ts F 1=0):r=0∧∃ R,bI n cd ts F=some R∧Tab n cd ts F R:=by
 obtain⟨a,_,R,c⟩:=lD h;exact⟨a,R,c,Tab.of c⟩
theorem jr (bv vt vf:Value) (r n:Int) (cd:Int→Hd×List Pt) (ts:List Th) (F:List Fe) (h:Hp) (w:World) (I:SIn w bv vt vf r n cd ts F) (hb:∃ a,bv=.pointer a):Calls prog 95 #[bv,vt,vf,hpv h] w (jn w bv vt vf r n cd ts F h):=by
 obtain⟨ba,rfl⟩:=hb;obtain⟨pt,ct,rfl⟩:=I.li.things.form;obtain⟨pf,cf,rfl⟩:=I.li.feats.form;obtain⟨W0,hW0⟩:=Qe (w.alloc (.cells #[.int .u8 h.vb,.int .i64 h.on,.int .i64 h.ct,.int .i64 h.ho,.bool h.vn,.bool h.dr] 87));obtain⟨W1,hW1⟩:=Qe (W0.alloc (.cells #[.pointer none,.slice none 0 0,.slice none 0 0,.slice none 0 0] 175));have g0:w.grownBy W0 none:=by rw[hW0];exact QG
 have g1:W0.grownBy W1 none:=by rw[hW1];exact QG
 have e0:W0.heap.size=w.heap.size+1:=by rw[hW0,Qa3]
 have HG1:QH (w.grownBy W1 none):=aa g0 g1;have HH:QH (HpB W1 w.heap.size h):=ag g1 (by rw[hW0];exact aj w _ _) (by simp);have HR:QH (dg W1 (w.heap.size+1) (.pointer none) (.slice none 0 0) (.slice none 0 0) (.slice none 0 0)):=by rw[←e0,hW1];exact aj _ _ _
 have HI:QH (SIn W1 (.pointer ba) (.slice pt ts.length ct) (.slice pf F.length cf) r n cd ts F):=I.keep HG1.o;have CL:=AJ (.pointer ba) _ _ r n cd ts F W1 HI.o ⟨ba,rfl⟩;unfold oJ at CL;have hW1':W1=(w.alloc (.cells #[.int .u8 h.vb,.int .i64 h.on,.int .i64 h.ct,.int .i64 h.ho,.bool h.vn,.bool h.dr] 87)).alloc (.cells #[.pointer none,.slice none 0 0,.slice none 0 0,.slice none 0 0] 175):=by rw[hW1,hW0]
 unfold hpv;clear I hW0 hW1 g0 g1 e0;go_enter func95,ntmps95;go_upto_region 1 with fail;rw[←hW1'];clear hW1';obtain⟨n0,hn0⟩:=Qe (w.heap.size);have Hn0:QH (w.heap.size≤n0):=by rw[hn0];exact Qj _
 simp only[←hn0] at HH HR ⊢;obtain⟨n1,hn1⟩:=Qe (n0+1);have Hn1:QH (w.heap.size≤n1∧n0≠n1):=⟨by have:=Hn0.o;omega,by omega⟩
 simp only[←hn1] at HR ⊢;clear hn0 hn1;go_wp2_with fail;refine CL.mono ?_;rintro e2 w2 ⟨a,p1,m1,c1,p2,m2,c2,p3,m3,c3,rfl,g2,h2⟩;obtain⟨q,hq⟩:=Qe (bgE r n cd ts F 1);have Hq:QH (q=bgE r n cd ts F 1):=hq;rw[←hq];obtain⟨V,hV⟩:=Qe (w2.alloc (.cells #[.pointer a,.slice p1 m1 c1,.slice p2 m2 c2,.slice p3 m3 c3] 175));have gV:w2.grownBy V none:=by rw[hV];exact QG
 have HV:QH (W1.grownBy V none∧w.grownBy V none∧HpB V n0 h∧dg V n1 (.pointer none) (.slice none 0 0) (.slice none 0 0) (.slice none 0 0)∧dg V w2.heap.size (.pointer a) (.slice p1 m1 c1) (.slice p2 m2 c2) (.slice p3 m3 c3)):=⟨aa g2 gV,aa HG1.o (aa g2 gV),ag (aa g2 gV) HH.o (by simp),ag (aa g2 gV) HR.o (by simp),by rw[hV];exact aj _ _ _⟩
 have H2:QH (∀ R,r=0→bI n cd ts F=some R→.pointer a=Value.pointer ba∧.slice p1 m1 c1=Value.slice pt ts.length ct∧.slice p2 m2 c2=Value.slice pf F.length cf∧aV V W1.heap.size (.slice p3 m3 c3) (swL R F)):=fun R x y=>by
  obtain⟨k1,k2,k3,k4⟩:=h2 R x y;exact⟨k1,k2,k3,aC k4 gV⟩
 clear CL g2 h2 hq gV;go_upto_region 2 with fail;rw[←hV];obtain⟨n2,hn2⟩:=Qe (w2.heap.size);rw[←hn2] at HV ⊢;clear hV hn2;obtain⟨r0,r1,r2,r3⟩:=bg HV.o.2.2.2.1;have rf:=fun i=>aq HV.o.2.2.2.1 i;by_cases hq0:q=0
 case neg =>
  have k0:(q != 0)=true:=by simpa using hq0
  have HE:QH (laE r n cd ts F h=q∧q≠0):=⟨by unfold laE;rw[←Hq.o,if_neg hq0],hq0⟩
  clear hq0;go_wp2_with fail;refine bodyPost_ret (v:=.tuple #[.agg #[.pointer none,.slice none 0 0,.slice none 0 0,.slice none 0 0],.int .i64 q]) (by simp[results,results95,go_sem,r0,r1,r2,r3]) rfl (jn.no HE.o.1 HE.o.2 ?_);exact gK HV.o.2.1 Hn1.o.1 _ _ _ _
 have k0:(q != 0)=false:=by simpa using hq0
 obtain⟨hr,R,hR,hT⟩:=lC (Hq.o.symm.trans hq0);obtain⟨k1,k2,k3,k4⟩:=H2.o R hr hR;have HT:QH (bI n cd ts F=some R∧aV V W1.heap.size (.slice p3 m3 c3) (swL R F)∧bgE r n cd ts F 1=0∧W1.heap.size≤V.heap.size):=⟨hR,k4,Hq.o.symm.trans hq0,HV.o.1.size⟩
 have CM:=yj (.pointer a) (.slice p1 m1 c1) (.slice p2 m2 c2) (.slice p3 m3 c3) ts h V (by rw[k2];exact HI.o.li.things.keep HV.o.1) (HI.o.li.book hr).2;have HK:QH (.pointer a=Value.pointer ba∧.slice p1 m1 c1=Value.slice pt ts.length ct∧.slice p2 m2 c2=Value.slice pf F.length cf):=⟨k1,k2,k3⟩
 unfold dn hpv at CM;obtain⟨s0,s1,s2,s3⟩:=bg HV.o.2.2.2.2;obtain⟨x0,x1,x2,x3,x4,x5⟩:=aJ HV.o.2.2.1;obtain⟨b,hb⟩:=Qe (aK ts h);have Hb:QH (b=aK ts h):=hb;rw[←hb] at CM;clear hq0 hr hR hT k1 k2 k3 k4 hb H2 r0 r1 r2 r3 rf;go_wp2_with fail;refine CM.mono ?_;rintro e4 w4 ⟨rfl,g4⟩;have H4:QH (w.grownBy w4 none∧dg w4 n1 (.pointer none) (.slice none 0 0) (.slice none 0 0) (.slice none 0 0)∧dg w4 n2 (.pointer a) (.slice p1 m1 c1) (.slice p2 m2 c2) (.slice p3 m3 c3)∧aV w4 W1.heap.size (.slice p3 m3 c3) (swL R F)):=⟨aa HV.o.2.1 g4,ag g4 HV.o.2.2.2.1 (by simp),ag g4 HV.o.2.2.2.2 (by simp),aC HT.o.2.1 g4⟩
 clear CM g4 s0 s1 s2 s3 x0 x1 x2 x3 x4 x5;obtain⟨s0,s1,s2,s3⟩:=bg H4.o.2.2.1;obtain⟨r0,r1,r2,r3⟩:=bg H4.o.2.1;have rf:=fun i=>aq H4.o.2.1 i;cases b with
 | false =>
  have HE:QH (laE r n cd ts F h=2):=by show _=_;unfold laE;rw[if_pos HT.o.2.2.1,←Hb.o];rfl
  go_wp2_with fail;refine bodyPost_ret (v:=.tuple #[.agg #[.pointer none,.slice none 0 0,.slice none 0 0,.slice none 0 0],.int .i64 2]) (by simp[results,results95,go_sem,r0,r1,r2,r3]) rfl (jn.no HE.o (by decide) ?_);exact gK H4.o.1 Hn1.o.1 _ _ _ _
 | true =>
  have HE:QH (laE r n cd ts F h=0):=by show _=_;unfold laE;rw[if_pos HT.o.2.2.1,←Hb.o];rfl
  go_wp2_with fail;refine bodyPost_ret (v:=.tuple #[.agg #[.pointer a,.slice p1 m1 c1,.slice p2 m2 c2,.slice p3 m3 c3],.int .i64 0]) (by simp[results,results95,go_sem,r0,r1,r2,r3]) rfl ⟨a,p1,m1,c1,p2,m2,c2,p3,m3,c3,by rw[HE.o],?_,fun R' _ hR' _=>⟨HK.o.1,HK.o.2.1,HK.o.2.2,?_⟩⟩
  ·exact gK H4.o.1 Hn1.o.1 _ _ _ _
  ·rw[HT.o.1] at hR';cases hR';exact bj (bO H4.o.2.2.2 (ra _ _ _ _ _ _) H4.o.2.1 (by decide)) HG1.o.size
def el (r n:Int) (cd:Int→Hd×List Pt) (ts:List Th) (F:List Fe) (h:Hp):Ss :=
 if ¬laE r n cd ts F h=0 then Ss.none
 else if cw h=true then Ss.none
 else if (decide (h.vb=1) && ke cd ts h.on)=true then ⟨Hp.none,[],1,0⟩
 else dm cd ts F (swT r n cd ts F) h (Ss.begin h)
theorem uU (e:laE r n cd ts F h=0):bgE r n cd ts F 1=0∧aK ts h=true:=by
 unfold laE at e;split at e
 ·rename_i hb;split at e
  ·rename_i hm;exact⟨hb,hm⟩
  ·cases e
 ·rename_i hb;exact absurd e hb
theorem DN (bv vt vf:Value) (r n:Int) (cd:Int→Hd×List Pt) (ts:List Th) (F:List Fe) (h:Hp) (w:World) (I:SIn w bv vt vf r n cd ts F) (hb:∃ a,bv=.pointer a):Calls prog 39 #[bv,vt,vf,hpv h] w fun e w'=>∃ p m c,e=.returned (.tuple #[dB (el r n cd ts F h).af (.slice p m c) (el r n cd ts F h).go (el r n cd ts F h).li,.int .i64 (laE r n cd ts F h)])∧aV w' w.heap.size (.slice p m c) (el r n cd ts F h).us∧w.grownBy w' none:=by
 obtain⟨ba,rfl⟩:=hb;obtain⟨pt,ct,rfl⟩:=I.li.things.form;obtain⟨pf,cf,rfl⟩:=I.li.feats.form;obtain⟨W0,hW0⟩:=Qe (w.alloc (.cells #[.int .u8 h.vb,.int .i64 h.on,.int .i64 h.ct,.int .i64 h.ho,.bool h.vn,.bool h.dr] 87));obtain⟨W1,hW1⟩:=Qe (W0.alloc (.cells #[.int .u8 0,.int .i64 0,.int .i64 0,.int .i64 0,.bool false,.bool false,.slice none 0 0,.int .i64 0,.int .i64 0] 90));have g0:w.grownBy W0 none:=by rw[hW0];exact QG
 have g1:W0.grownBy W1 none:=by rw[hW1];exact QG
 have e0:W0.heap.size=w.heap.size+1:=by rw[hW0,Qa3]
 have HG1:QH (w.grownBy W1 none):=aa g0 g1;have HH:QH (HpB W1 w.heap.size h):=ag g1 (by rw[hW0];exact aj w _ _) (by simp);have HR:QH (SwB W1 (w.heap.size+1) Hp.none (.slice none 0 0) 0 0):=by rw[←e0,hW1];exact aj _ _ _
 have HI:QH (SIn W1 (.pointer ba) (.slice pt ts.length ct) (.slice pf F.length cf) r n cd ts F):=I.keep HG1.o;have CL:=jr (.pointer ba) _ _ r n cd ts F h W1 HI.o ⟨ba,rfl⟩;unfold jn hpv at CL;have CN:=fun W=>jR h W;unfold hpv at CN;have hW1':W1=(w.alloc (.cells #[.int .u8 h.vb,.int .i64 h.on,.int .i64 h.ct,.int .i64 h.ho,.bool h.vn,.bool h.dr] 87)).alloc (.cells #[.int .u8 0,.int .i64 0,.int .i64 0,.int .i64 0,.bool false,.bool false,.slice none 0 0,.int .i64 0,.int .i64 0] 90):=by rw[hW1,hW0]
 unfold hpv;clear I hW0 hW1 g0 g1 e0;go_enter func39,ntmps39;go_upto_region 1 with fail;rw[←hW1'];clear hW1';obtain⟨n0,hn0⟩:=Qe (w.heap.size);have Hn0:QH (w.heap.size≤n0):=by rw[hn0];exact Qj _
 simp only[←hn0] at HH HR ⊢;obtain⟨n1,hn1⟩:=Qe (n0+1);have Hn1:QH (w.heap.size≤n1∧n0≠n1):=⟨by have:=Hn0.o;omega,by omega⟩
 simp only[←hn1] at HR ⊢;clear hn0 hn1;obtain⟨x0,x1,x2,x3,x4,x5⟩:=aJ HH.o;go_wp2_with fail;refine CL.mono ?_;rintro e2 w2 ⟨a,p1,m1,c1,p2,m2,c2,p3,m3,c3,rfl,g2,h2⟩;obtain⟨q,hq⟩:=Qe (laE r n cd ts F h);have Hq:QH (q=laE r n cd ts F h):=hq;rw[←hq];obtain⟨V,hV⟩:=Qe (w2.alloc (.cells #[.pointer a,.slice p1 m1 c1,.slice p2 m2 c2,.slice p3 m3 c3] 175));have gV:w2.grownBy V none:=by rw[hV];exact QG
 have HV:QH (W1.grownBy V none∧w.grownBy V none∧HpB V n0 h∧SwB V n1 Hp.none (.slice none 0 0) 0 0∧dg V w2.heap.size (.pointer a) (.slice p1 m1 c1) (.slice p2 m2 c2) (.slice p3 m3 c3)):=⟨aa g2 gV,aa HG1.o (aa g2 gV),ag (aa g2 gV) HH.o (by simp),ag (aa g2 gV) HR.o (by simp),by rw[hV];exact aj _ _ _⟩
 have H2:QH (∀ R,r=0→bI n cd ts F=some R→aK ts h=true→.pointer a=Value.pointer ba∧.slice p1 m1 c1=Value.slice pt ts.length ct∧.slice p2 m2 c2=Value.slice pf F.length cf∧aV V W1.heap.size (.slice p3 m3 c3) (swL R F)):=fun R x y z=>by
  obtain⟨k1,k2,k3,k4⟩:=h2 R x y z;exact⟨k1,k2,k3,aC k4 gV⟩
 clear CL g2 h2 hq gV x0 x1 x2 x3 x4 x5;go_upto_region 2 with fail;rw[←hV];obtain⟨n2,hn2⟩:=Qe (w2.heap.size);rw[←hn2] at HV ⊢;clear hV hn2;obtain⟨x0,x1,x2,x3,x4,x5⟩:=aJ HV.o.2.2.1;by_cases hq0:q=0
 case neg =>
  have k0:(q != 0)=true:=by simpa using hq0
  have HE:QH (el r n cd ts F h=Ss.none):=by show _=_;unfold el;rw[if_pos (fun e=>hq0 (Hq.o.trans e))]
  clear hq0 H2;go_wp2_with (refine wpList_store_row rfl 90 (.tmp 8) (.tmp 23) rfl n1 (swa Hp.none (.slice none 0 0) 0 0) rfl rfl 90 _ HV.o.2.2.2.1 (by kernel_rfl) rfl (by simp[swa,Value.oneCell',Hp.none]) ?_)
  obtain⟨Wr,hWr⟩:=Qe (V.setRow n1 (swa Hp.none (.slice none 0 0) 0 0));have HWr:QH (SwB Wr n1 Hp.none (.slice none 0 0) 0 0∧V.grownBy Wr (some n1)):=⟨by rw[hWr];exact dL V n1 _ _ _ _ _ _ _ _ (HV.o.2.2.2.1),by rw[hWr];exact az _ _ _⟩
  rw[←hWr];clear hWr;obtain⟨r0,r1,r2,r3,r4,r5,r6,r7,r8⟩:=bt HWr.o.1;refine bodyPost_ret (v:=.tuple #[dB Hp.none (.slice none 0 0) 0 0,.int .i64 q]) (by simp[results,results39,go_sem,dB,r0,r1,r2,r3,r4,r5,r6,r7,r8]) rfl ⟨none,0,0,by rw[HE.o,←Hq.o];rfl,by rw[HE.o];exact aB.Own.nil _ _ _ _,ak HV.o.2.1 HWr.o.2 (fun y e=>by cases e;exact Hn1.o.1)⟩
 have k0:(q != 0)=false:=by simpa using hq0
 have hla:=uU (Hq.o.symm.trans hq0);obtain⟨hr,R,hR,hT⟩:=lC hla.1;obtain⟨k1,k2,k3,k4⟩:=H2.o R hr hR hla.2;have HT:QH (swT r n cd ts F=swL R F∧aV V W1.heap.size (.slice p3 m3 c3) (swL R F)∧laE r n cd ts F h=0∧aK ts h=true∧r=0∧Tab n cd ts F R∧q=0):=⟨kl hla.1 hR,k4,Hq.o.symm.trans hq0,hla.2,hr,hT,hq0⟩
 have HN:QH (∀ X,V.grownBy X none→NIn X (.pointer a) (.slice p1 m1 c1) (.slice p2 m2 c2) (.slice p3 m3 c3) n cd ts F (swL R F)):=fun X qx=>by
  rw[k1,k2,k3];exact HI.o.scene hr hT (aa HV.o.1 qx) (aC k4 qx)
 clear hq0 hla hr hR hT k1 k2 k3 k4 H2;obtain⟨b,hb⟩:=Qe (cw h);have Hb:QH (b=cw h):=hb;rw[←hb] at CN;clear hb;go_wp2_with fail;refine(CN _).mono ?_;rintro e4 w4 ⟨rfl,g4⟩;have H4:QH (V.grownBy w4 none∧HpB w4 n0 h∧SwB w4 n1 Hp.none (.slice none 0 0) 0 0∧dg w4 n2 (.pointer a) (.slice p1 m1 c1) (.slice p2 m2 c2) (.slice p3 m3 c3)):=⟨g4,ag g4 HV.o.2.2.1 (by simp),ag g4 HV.o.2.2.2.1 (by simp),ag g4 HV.o.2.2.2.2 (by simp)⟩
 clear CN g4 x0 x1 x2 x3 x4 x5;cases b with
 | true =>
  have HE:QH (el r n cd ts F h=Ss.none):=by show _=_;unfold el;rw[if_neg (fun e=>e HT.o.2.2.1),if_pos Hb.o.symm]
  go_wp2_with (refine wpList_store_row rfl 90 (.tmp 8) (.tmp 28) rfl n1 (swa Hp.none (.slice none 0 0) 0 0) rfl rfl 90 _ H4.o.2.2.1 (by kernel_rfl) rfl (by simp[swa,Value.oneCell',Hp.none]) ?_)
  obtain⟨Wr,hWr⟩:=Qe (w4.setRow n1 (swa Hp.none (.slice none 0 0) 0 0));have HWr:QH (SwB Wr n1 Hp.none (.slice none 0 0) 0 0∧w4.grownBy Wr (some n1)):=⟨by rw[hWr];exact dL w4 n1 _ _ _ _ _ _ _ _ (H4.o.2.2.1),by rw[hWr];exact az _ _ _⟩
  rw[←hWr];clear hWr;obtain⟨r0,r1,r2,r3,r4,r5,r6,r7,r8⟩:=bt HWr.o.1;refine bodyPost_ret (v:=.tuple #[dB Hp.none (.slice none 0 0) 0 0,.int .i64 0]) (by simp[results,results39,go_sem,dB,r0,r1,r2,r3,r4,r5,r6,r7,r8]) rfl ⟨none,0,0,by rw[HE.o,HT.o.2.2.1];rfl,by rw[HE.o];exact aB.Own.nil _ _ _ _,ak (aa HV.o.2.1 H4.o.1) HWr.o.2 (fun y e=>by cases e;exact Hn1.o.1)⟩
 | false =>
  have hnh:¬cw h=true:=by rw[←Hb.o];simp
  obtain⟨u0,u1,u2,u3⟩:=bg H4.o.2.2.2;obtain⟨x0,x1,x2,x3,x4,x5⟩:=aJ H4.o.2.1;have hm2:=nK HT.o.2.2.2.1;have CS:∀ X,V.grownBy X none→Calls prog 97 #[dn (.pointer a) (.slice p1 m1 c1) (.slice p2 m2 c2) (.slice p3 m3 c3),.int .i64 h.on] X fun e w'=>e=.returned (.bool (ke cd ts h.on))∧X.grownBy w' none:=fun X qx=>mG _ _ _ _ n cd ts h.on X (HN.o X qx).at1 (HN.o X qx).card (HN.o X qx).few (HN.o X qx).be hm2.1;have CA:∀ X,V.grownBy X none→Calls prog 98 #[dn (.pointer a) (.slice p1 m1 c1) (.slice p2 m2 c2) (.slice p3 m3 c3),hpv h] X fun e w'=>∃ p m c,e=.returned (dB (dm cd ts F (swL R F) h (Ss.begin h)).af (.slice p m c) (dm cd ts F (swL R F) h (Ss.begin h)).go (dm cd ts F (swL R F) h (Ss.begin h)).li)∧aV w' X.heap.size (.slice p m c) (dm cd ts F (swL R F) h (Ss.begin h)).us∧X.grownBy w' none:=fun X qx=>CY _ _ _ _ n cd ts F (swL R F) h X (HN.o X qx) HT.o.2.2.2.1 (D5 HT.o.2.2.2.2.2.1 (HI.o.li.book HT.o.2.2.2.2.1).1.few) (fun s hs=>(nO HT.o.2.2.2.2.2.1 HI.o.good hs).2);unfold dn at CS CA;unfold hpv at CA;have HE0:QH (¬cw h=true):=hnh;clear hnh hm2;by_cases v1:h.vb=1
  ·have Hv1:QH (h.vb=1):=v1;rw[v1] at x0;have CS1:=CS w4 H4.o.1;obtain⟨s,hs⟩:=Qe (ke cd ts h.on);have Hs:QH (s=ke cd ts h.on):=hs;rw[←hs] at CS1;clear v1 hs CS;go_wp2_with fail;refine CS1.mono ?_;rintro e5 w5 ⟨rfl,g5⟩;have H5:QH (V.grownBy w5 none∧HpB w5 n0 h∧SwB w5 n1 Hp.none (.slice none 0 0) 0 0∧dg w5 n2 (.pointer a) (.slice p1 m1 c1) (.slice p2 m2 c2) (.slice p3 m3 c3)):=⟨aa H4.o.1 g5,ag g5 H4.o.2.1 (by simp),ag g5 H4.o.2.2.1 (by simp),ag g5 H4.o.2.2.2 (by simp)⟩
   clear CS1 g5 x0 x1 x2 x3 x4 x5 u0 u1 u2 u3;cases s with
   | true =>
    have HE:QH (el r n cd ts F h=⟨Hp.none,[],1,0⟩):=(by show _=_;unfold el;rw[if_neg (fun e=>e HT.o.2.2.1),if_neg HE0.o,if_pos (by rw[Qy Hv1.o,←Hs.o];rfl)]);go_wp2_with (refine wpList_store_row rfl 90 (.tmp 8) (.tmp 39) rfl n1 (swa Hp.none (.slice none 0 0) 1 0) rfl rfl 90 _ H5.o.2.2.1 (by kernel_rfl) rfl (by simp[swa,Value.oneCell',Hp.none]) ?_)
    obtain⟨Wr,hWr⟩:=Qe (w5.setRow n1 (swa Hp.none (.slice none 0 0) 1 0));have HWr:QH (SwB Wr n1 Hp.none (.slice none 0 0) 1 0∧w5.grownBy Wr (some n1)):=⟨by rw[hWr];exact dL w5 n1 _ _ _ _ _ _ _ _ (H5.o.2.2.1),by rw[hWr];exact az _ _ _⟩
    rw[←hWr];clear hWr;obtain⟨r0,r1,r2,r3,r4,r5,r6,r7,r8⟩:=bt HWr.o.1;refine bodyPost_ret (v:=.tuple #[dB Hp.none (.slice none 0 0) 1 0,.int .i64 0]) (by simp[results,results39,go_sem,dB,r0,r1,r2,r3,r4,r5,r6,r7,r8]) rfl ⟨none,0,0,by rw[HE.o,HT.o.2.2.1],by rw[HE.o];exact aB.Own.nil _ _ _ _,ak (aa HV.o.2.1 H5.o.1) HWr.o.2 (fun y e=>by cases e;exact Hn1.o.1)⟩
   | false =>
    have HE:QH (el r n cd ts F h=dm cd ts F (swL R F) h (Ss.begin h)):=(by show _=_;unfold el;rw[if_neg (fun e=>e HT.o.2.2.1),if_neg HE0.o,if_neg (by rw[←Hs.o];simp),HT.o.1]);obtain⟨u0,u1,u2,u3⟩:=bg H5.o.2.2.2;obtain⟨x0,x1,x2,x3,x4,x5⟩:=aJ H5.o.2.1;have CA1:=CA w5 H5.o.1;have HW5:QH (SwB w5 n1 Hp.none (.slice none 0 0) 0 0∧V.grownBy w5 none):=⟨H5.o.2.2.1,H5.o.1⟩
    clear CA;go_wp2_with fail;refine CA1.mono ?_;rintro e6 w6 ⟨p6,m6,c6,rfl,o6,g6⟩;obtain⟨X,hX⟩:=Qe (dm cd ts F (swL R F) h (Ss.begin h));rw[←hX] at HE o6 ⊢;have H6:QH (aV w6 W1.heap.size (.slice p6 m6 c6) X.us∧SwB w6 n1 Hp.none (.slice none 0 0) 0 0∧w.grownBy w6 none):=⟨bj o6 (Ql HV.o.1.size HW5.o.2.size),ag g6 HW5.o.1 (by simp),aa HV.o.2.1 (aa HW5.o.2 g6)⟩
    clear CA1 o6 g6 hX x0 x1 x2 x3 x4 x5 u0 u1 u2 u3;unfold dB;go_wp2_with (refine wpList_store_row rfl 90 (.tmp 8) (.tmp 42) rfl n1 (swa X.af (.slice p6 m6 c6) X.go X.li) rfl rfl 90 _ H6.o.2.1 (by kernel_rfl) rfl (by simp[swa,Value.oneCell']) ?_)
    obtain⟨Wr,hWr⟩:=Qe (w6.setRow n1 (swa X.af (.slice p6 m6 c6) X.go X.li));have HWr:QH (SwB Wr n1 X.af (.slice p6 m6 c6) X.go X.li∧w6.grownBy Wr (some n1)):=⟨by rw[hWr];exact dL w6 n1 _ _ _ _ _ _ _ _ (H6.o.2.1),by rw[hWr];exact az _ _ _⟩
    rw[←hWr];clear hWr;obtain⟨r0,r1,r2,r3,r4,r5,r6,r7,r8⟩:=bt HWr.o.1;refine bodyPost_ret (v:=.tuple #[dB X.af (.slice p6 m6 c6) X.go X.li,.int .i64 0]) (by simp[results,results39,go_sem,dB,r0,r1,r2,r3,r4,r5,r6,r7,r8]) rfl ⟨p6,m6,c6,by rw[HE.o,HT.o.2.2.1],?_,ak H6.o.2.2 HWr.o.2 (fun y e=>by cases e;exact Hn1.o.1)⟩;rw[HE.o];exact bj (bO H6.o.1 HWr.o.2 H6.o.2.1 (by decide)) HG1.o.size
  ·have k1:(h.vb == 1)=false:=(by simpa using v1);have HE:QH (el r n cd ts F h=dm cd ts F (swL R F) h (Ss.begin h)):=(by show _=_;unfold el;rw[if_neg (fun e=>e HT.o.2.2.1),if_neg HE0.o,if_neg (by rw[Qx v1];simp),HT.o.1]);have CA1:=CA w4 H4.o.1;have HW5:QH (SwB w4 n1 Hp.none (.slice none 0 0) 0 0∧V.grownBy w4 none):=⟨H4.o.2.2.1,H4.o.1⟩
   clear CA CS v1;go_wp2_with fail;refine CA1.mono ?_;rintro e6 w6 ⟨p6,m6,c6,rfl,o6,g6⟩;obtain⟨X,hX⟩:=Qe (dm cd ts F (swL R F) h (Ss.begin h));rw[←hX] at HE o6 ⊢;have H6:QH (aV w6 W1.heap.size (.slice p6 m6 c6) X.us∧SwB w6 n1 Hp.none (.slice none 0 0) 0 0∧w.grownBy w6 none):=⟨bj o6 (Ql HV.o.1.size HW5.o.2.size),ag g6 HW5.o.1 (by simp),aa HV.o.2.1 (aa HW5.o.2 g6)⟩
   clear CA1 o6 g6 hX x0 x1 x2 x3 x4 x5 u0 u1 u2 u3;unfold dB;go_wp2_with (refine wpList_store_row rfl 90 (.tmp 8) (.tmp 42) rfl n1 (swa X.af (.slice p6 m6 c6) X.go X.li) rfl rfl 90 _ H6.o.2.1 (by kernel_rfl) rfl (by simp[swa,Value.oneCell']) ?_)
   obtain⟨Wr,hWr⟩:=Qe (w6.setRow n1 (swa X.af (.slice p6 m6 c6) X.go X.li));have HWr:QH (SwB Wr n1 X.af (.slice p6 m6 c6) X.go X.li∧w6.grownBy Wr (some n1)):=⟨by rw[hWr];exact dL w6 n1 _ _ _ _ _ _ _ _ (H6.o.2.1),by rw[hWr];exact az _ _ _⟩
   rw[←hWr];clear hWr;obtain⟨r0,r1,r2,r3,r4,r5,r6,r7,r8⟩:=bt HWr.o.1;refine bodyPost_ret (v:=.tuple #[dB X.af (.slice p6 m6 c6) X.go X.li,.int .i64 0]) (by simp[results,results39,go_sem,dB,r0,r1,r2,r3,r4,r5,r6,r7,r8]) rfl ⟨p6,m6,c6,by rw[HE.o,HT.o.2.2.1],?_,ak H6.o.2.2 HWr.o.2 (fun y e=>by cases e;exact Hn1.o.1)⟩;rw[HE.o];exact bj (bO H6.o.1 HWr.o.2 H6.o.2.1 (by decide)) HG1.o.size
