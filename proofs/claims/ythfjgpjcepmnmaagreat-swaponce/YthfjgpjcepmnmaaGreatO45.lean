import Derived.Test.YthfjgpjcepmnmaaGreatSwN
namespace Go.Proofs.YthfjgpjcepmnmaaGreat
set_option maxRecDepth 100000
set_option maxHeartbeats 4000000
open Go.RowKit
def laE (r n:Int) (cd:Int→Hd×List Pt) (ts:List Th) (F:List Fe) (h:Hp):Int:=if bgE r n cd ts F 1=0 then (if bw ts h=true then 0 else 2) else bgE r n cd ts F 1
def swT (r n:Int) (cd:Int→Hd×List Pt) (ts:List Th) (F:List Fe):List Sd:=if bgE r n cd ts F 1=0 then (match bd n cd ts F with | some R=>swL R F | none=>[]) else []
theorem ke {r n:Int} {cd:Int→Hd×List Pt} {ts:List Th} {F:List Fe} {R:List Rw} (hb:bgE r n cd ts F 1=0) (hR:bd n cd ts F=some R):swT r n cd ts F=swL R F:=by unfold swT;rw[if_pos hb,hR]
theorem F4 {r n:Int} {cd:Int→Hd×List Pt} {ts:List Th} {F:List Fe} (hb:¬bgE r n cd ts F 1=0):swT r n cd ts F=[]:=by unfold swT;rw[if_neg hb]
theorem tY {n:Int} {cd:Int→Hd×List Pt} {ts:List Th} {F:List Fe} {R:List Rw} (hT:Tab n cd ts F R) (hg:nk cd) {s:Sd} (hs:s∈swL R F):AD F s∧(s.wh.vb=16→1≤s.wh.ct∧s.wh.ct≤99):=by
 unfold swL at hs
 obtain⟨r,hr,hs⟩:=List.mem_flatMap.1 hs
 obtain⟨j,t,ht,h4,e⟩:=hT.row hr
 have hj:j<F.length:=by rw[←hT.len];exact(List.getElem?_eq_some_iff.1 ht).1
 obtain⟨f,hf⟩:∃ f,F[j]?=some f:=⟨_,List.getElem?_eq_getElem hj⟩
 have hm:=hT.may j t f ht hf h4
 unfold gO at hs
 split at hs
 ·cases hs
 ·unfold bQ at hs
  obtain⟨x,hx,e2⟩:=List.mem_map.1 hs
  obtain⟨q,e3,hq,hw⟩:=lL r.ps 0 6 x hx
  have hps:r.ps=(cd t.card).2:=by rw[e]
  have hin:s.wh∈(cd t.card).2:=by
   rw[←e2,e3]
   show r.ps.getD ((0+q:Nat):Int).toNat Pt.none∈_
   rw[Nat.zero_add,Int.toNat_natCast,aw hq,←hps]
   exact List.getElem_mem _
  have hw6:s.wh.wn=6:=by
   rw[←e2,e3]
   show (r.ps.getD ((0+q:Nat):Int).toNat Pt.none).wn=6
   rw[Nat.zero_add,Int.toNat_natCast]
   exact hw
  obtain⟨g1,g2,g3⟩:=hg _ _ hin hw6
  refine⟨⟨j,f,by rw[←e2,e],hf,?_,g1,g2⟩,fun q=>g3 (Or.inl q)⟩
  unfold aQ fm at hm
  simp only[Bool.and_eq_true,Bool.or_eq_true,decide_eq_true_eq] at hm
  exact hm.1.2
theorem AV {n:Int} {cd:Int→Hd×List Pt} {ts:List Th} {F:List Fe} {R:List Rw} (hT:Tab n cd ts F R) (h4:∀ c,(cd c).2.length≤4):(swL R F).length≤64:=by
 have:=oZ (F:=F) (hT.ps4 h4) R.length (Nat.le_refl _)
 rw[wP] at this
 have:=hT.few
 omega
theorem SIn.scene {w w':World} {bv vt vf vl:Value} {r n:Int} {cd:Int→Hd×List Pt} {ts:List Th} {F:List Fe} {R:List Rw} {B:Nat} (I:SIn w bv vt vf r n cd ts F) (hr:r=0) (hT:Tab n cd ts F R) (g:w.grownBy w' none) (O:bi w' B vl (swL R F)):NIn w' bv vt vf vl n cd ts F (swL R F):=⟨I.li.things.keep g,I.li.feats.keep g,ay.Own.at O,(I.card hr).keep g,hT.len,(I.li.book hr).2,fun j t ht=>by
  have hj:j<F.length:=by rw[←hT.len];exact(List.getElem?_eq_some_iff.1 ht).1
  exact vT (hT.mays ht (List.getElem?_eq_getElem hj)).1,fun s hs=>(tY hT I.good hs).1⟩
def iO (w:World) (bv vt vf:Value) (r n:Int) (cd:Int→Hd×List Pt) (ts:List Th) (F:List Fe) (h:Hp) (e:Ending) (w':World):Prop:=∃ a p1 m1 c1 p2 m2 c2 p3 m3 c3,e=.returned (.tuple #[.agg #[.pointer a,.slice p1 m1 c1,.slice p2 m2 c2,.slice p3 m3 c3],.int .i64 (laE r n cd ts F h)])∧w.grownBy w' none∧(∀ R,r=0→bd n cd ts F=some R→bw ts h=true→.pointer a=bv∧.slice p1 m1 c1=vt∧.slice p2 m2 c2=vf∧bi w' w.heap.size (.slice p3 m3 c3) (swL R F))
theorem iO.no {w w':World} {bv vt vf:Value} {r n:Int} {cd:Int→Hd×List Pt} {ts:List Th} {F:List Fe} {h:Hp} {q:Int} (e:laE r n cd ts F h=q) (hq:q≠0) (g:w.grownBy w' none):iO w bv vt vf r n cd ts F h (.returned (.tuple #[.agg #[.pointer none,.slice none 0 0,.slice none 0 0,.slice none 0 0],.int .i64 q])) w':=⟨none,none,0,0,none,0,0,none,0,0,by rw[e],g,fun R h0 h1 h2=>by unfold laE at e;rw[h0,lW h1 (by decide),if_pos rfl,if_pos h2] at e;exact absurd e.symm hq⟩
theorem jl {r n:Int} {cd:Int→Hd×List Pt} {ts:List Th} {F:List Fe} (h:bgE r n cd ts F 1=0):r=0∧∃ R,bd n cd ts F=some R∧Tab n cd ts F R:=by
 obtain⟨a,_,R,c⟩:=m9 h
 exact⟨a,R,c,Tab.of c⟩
theorem ix (bv vt vf:Value) (r n:Int) (cd:Int→Hd×List Pt) (ts:List Th) (F:List Fe) (h:Hp) (w:World) (I:SIn w bv vt vf r n cd ts F) (hb:∃ a,bv=.pointer a):Calls Tryz.prog 63 #[bv,vt,vf,hpv h] w (iO w bv vt vf r n cd ts F h):=by
 obtain⟨ba,rfl⟩:=hb
 obtain⟨pt,ct,rfl⟩:=I.li.things.form
 obtain⟨pf,cf,rfl⟩:=I.li.feats.form
 obtain⟨W0,hW0⟩:∃ W0,W0=w.alloc (.cells #[.int .u8 h.vb,.int .i64 h.on,.int .i64 h.ct,.int .i64 h.ho,.bool h.vn,.bool h.dr] 43):=⟨_,rfl⟩
 obtain⟨W1,hW1⟩:∃ W1,W1=W0.alloc (.cells #[.pointer none,.slice none 0 0,.slice none 0 0,.slice none 0 0] 136):=⟨_,rfl⟩
 have g0:w.grownBy W0 none:=by rw[hW0];exact World.grownBy_alloc _ _ none
 have g1:W0.grownBy W1 none:=by rw[hW1];exact World.grownBy_alloc _ _ none
 have e0:W0.heap.size=w.heap.size+1:=by rw[hW0,World.size_alloc]
 have HG1:Hid (w.grownBy W1 none):=aa g0 g1
 have HH:Hid (HpB W1 w.heap.size h):=ae g1 (by rw[hW0];exact ai w _ _) (by simp)
 have HR:Hid (bY W1 (w.heap.size+1) (.pointer none) (.slice none 0 0) (.slice none 0 0) (.slice none 0 0)):=by rw[←e0,hW1];exact ai _ _ _
 have HI:Hid (SIn W1 (.pointer ba) (.slice pt ts.length ct) (.slice pf F.length cf) r n cd ts F):=I.keep HG1.out
 have CL:=oH (.pointer ba) _ _ r n cd ts F W1 HI.out ⟨ba,rfl⟩
 unfold kp at CL
 have hW1':W1=(w.alloc (.cells #[.int .u8 h.vb,.int .i64 h.on,.int .i64 h.ct,.int .i64 h.ho,.bool h.vn,.bool h.dr] 43)).alloc (.cells #[.pointer none,.slice none 0 0,.slice none 0 0,.slice none 0 0] 136):=by rw[hW1,hW0]
 unfold hpv
 clear I hW0 hW1 g0 g1 e0
 go_enter Tryz.func63,Tryz.ntmps63
 go_upto_region 1 with fail
 rw[←hW1']
 clear hW1'
 obtain⟨n0,hn0⟩:∃ n0,n0=w.heap.size:=⟨_,rfl⟩
 have Hn0:Hid (w.heap.size≤n0):=by rw[hn0];exact Nat.le_refl _
 simp only[←hn0] at HH HR ⊢
 obtain⟨n1,hn1⟩:∃ n1,n1=n0+1:=⟨_,rfl⟩
 have Hn1:Hid (w.heap.size≤n1∧n0≠n1):=⟨by have:=Hn0.out;omega,by omega⟩
 simp only[←hn1] at HR ⊢
 clear hn0 hn1
 go_wp2_with fail
 refine CL.mono ?_
 rintro e2 w2 ⟨a,p1,m1,c1,p2,m2,c2,p3,m3,c3,rfl,g2,h2⟩
 obtain⟨q,hq⟩:∃ q,q=bgE r n cd ts F 1:=⟨_,rfl⟩
 have Hq:Hid (q=bgE r n cd ts F 1):=hq
 rw[←hq]
 obtain⟨V,hV⟩:∃ V,V=w2.alloc (.cells #[.pointer a,.slice p1 m1 c1,.slice p2 m2 c2,.slice p3 m3 c3] 136):=⟨_,rfl⟩
 have gV:w2.grownBy V none:=by rw[hV];exact World.grownBy_alloc _ _ none
 have HV:Hid (W1.grownBy V none∧w.grownBy V none∧HpB V n0 h∧bY V n1 (.pointer none) (.slice none 0 0) (.slice none 0 0) (.slice none 0 0)∧bY V w2.heap.size (.pointer a) (.slice p1 m1 c1) (.slice p2 m2 c2) (.slice p3 m3 c3)):=⟨aa g2 gV,aa HG1.out (aa g2 gV),ae (aa g2 gV) HH.out (by simp),ae (aa g2 gV) HR.out (by simp),by rw[hV];exact ai _ _ _⟩
 have H2:Hid (∀ R,r=0→bd n cd ts F=some R→.pointer a=Value.pointer ba∧.slice p1 m1 c1=Value.slice pt ts.length ct∧.slice p2 m2 c2=Value.slice pf F.length cf∧bi V W1.heap.size (.slice p3 m3 c3) (swL R F)):=fun R x y=>by
  obtain⟨k1,k2,k3,k4⟩:=h2 R x y
  exact⟨k1,k2,k3,aA k4 gV⟩
 clear CL g2 h2 hq gV
 go_upto_region 2 with fail
 rw[←hV]
 obtain⟨n2,hn2⟩:∃ n2,n2=w2.heap.size:=⟨_,rfl⟩
 rw[←hn2] at HV ⊢
 clear hV hn2
 obtain⟨r0,r1,r2,r3⟩:=aR HV.out.2.2.2.1
 have rf:=fun i=>ao HV.out.2.2.2.1 i
 by_cases hq0:q=0
 case neg =>
  have k0:(q != 0)=true:=by simpa using hq0
  have HE:Hid (laE r n cd ts F h=q∧q≠0):=⟨by unfold laE;rw[←Hq.out,if_neg hq0],hq0⟩
  clear hq0
  go_wp2_with fail
  refine bodyPost_ret (v:=.tuple #[.agg #[.pointer none,.slice none 0 0,.slice none 0 0,.slice none 0 0],.int .i64 q]) (by simp[results,Tryz.results63,go_sem,r0,r1,r2,r3]) rfl (iO.no HE.out.1 HE.out.2 ?_)
  exact fH HV.out.2.1 Hn1.out.1 _ _ _ _
 have k0:(q != 0)=false:=by simpa using hq0
 obtain⟨hr,R,hR,hT⟩:=jl (Hq.out.symm.trans hq0)
 obtain⟨k1,k2,k3,k4⟩:=H2.out R hr hR
 have HT:Hid (bd n cd ts F=some R∧bi V W1.heap.size (.slice p3 m3 c3) (swL R F)∧bgE r n cd ts F 1=0∧W1.heap.size≤V.heap.size):=⟨hR,k4,Hq.out.symm.trans hq0,HV.out.1.size⟩
 have CM:=tB (.pointer a) (.slice p1 m1 c1) (.slice p2 m2 c2) (.slice p3 m3 c3) ts h V (by rw[k2];exact HI.out.li.things.keep HV.out.1) (HI.out.li.book hr).2
 have HK:Hid (.pointer a=Value.pointer ba∧.slice p1 m1 c1=Value.slice pt ts.length ct∧.slice p2 m2 c2=Value.slice pf F.length cf):=⟨k1,k2,k3⟩
 unfold ch hpv at CM
 obtain⟨s0,s1,s2,s3⟩:=aR HV.out.2.2.2.2
 obtain⟨x0,x1,x2,x3,x4,x5⟩:=aL HV.out.2.2.1
 obtain⟨b,hb⟩:∃ b,b=bw ts h:=⟨_,rfl⟩
 have Hb:Hid (b=bw ts h):=hb
 rw[←hb] at CM
 clear hq0 hr hR hT k1 k2 k3 k4 hb H2 r0 r1 r2 r3 rf
 go_wp2_with fail
 refine CM.mono ?_
 rintro e4 w4 ⟨rfl,g4⟩
 have H4:Hid (w.grownBy w4 none∧bY w4 n1 (.pointer none) (.slice none 0 0) (.slice none 0 0) (.slice none 0 0)∧bY w4 n2 (.pointer a) (.slice p1 m1 c1) (.slice p2 m2 c2) (.slice p3 m3 c3)∧bi w4 W1.heap.size (.slice p3 m3 c3) (swL R F)):=⟨aa HV.out.2.1 g4,ae g4 HV.out.2.2.2.1 (by simp),ae g4 HV.out.2.2.2.2 (by simp),aA HT.out.2.1 g4⟩
 clear CM g4 s0 s1 s2 s3 x0 x1 x2 x3 x4 x5
 obtain⟨s0,s1,s2,s3⟩:=aR H4.out.2.2.1
 obtain⟨r0,r1,r2,r3⟩:=aR H4.out.2.1
 have rf:=fun i=>ao H4.out.2.1 i
 cases b with
 | false =>
  have HE:Hid (laE r n cd ts F h=2):=by show _=_;unfold laE;rw[if_pos HT.out.2.2.1,←Hb.out];rfl
  go_wp2_with fail
  refine bodyPost_ret (v:=.tuple #[.agg #[.pointer none,.slice none 0 0,.slice none 0 0,.slice none 0 0],.int .i64 2]) (by simp[results,Tryz.results63,go_sem,r0,r1,r2,r3]) rfl (iO.no HE.out (by decide) ?_)
  exact fH H4.out.1 Hn1.out.1 _ _ _ _
 | true =>
  have HE:Hid (laE r n cd ts F h=0):=by show _=_;unfold laE;rw[if_pos HT.out.2.2.1,←Hb.out];rfl
  go_wp2_with fail
  refine bodyPost_ret (v:=.tuple #[.agg #[.pointer a,.slice p1 m1 c1,.slice p2 m2 c2,.slice p3 m3 c3],.int .i64 0]) (by simp[results,Tryz.results63,go_sem,r0,r1,r2,r3]) rfl ⟨a,p1,m1,c1,p2,m2,c2,p3,m3,c3,by rw[HE.out],?_,fun R' _ hR' _=>⟨HK.out.1,HK.out.2.1,HK.out.2.2,?_⟩⟩
  ·exact fH H4.out.1 Hn1.out.1 _ _ _ _
  ·rw[HT.out.1] at hR'
   cases hR'
   exact aY (bX H4.out.2.2.2 (oy _ _ _ _ _ _) H4.out.2.1 (by decide)) HG1.out.size
theorem yQ (bv vt vf:Value) (r n:Int) (cd:Int→Hd×List Pt) (ts:List Th) (F:List Fe) (w:World) (I:SIn w bv vt vf r n cd ts F) (hb:∃ a,bv=.pointer a):Calls Tryz.prog 10 #[bv,vt,vf] w fun e w'=>∃ v,e=.returned (.tuple #[v,.int .i64 (bgE r n cd ts F 1)])∧bi w' w.heap.size v (swT r n cd ts F)∧w.grownBy w' none:=by
 have CL:=oH bv vt vf r n cd ts F w I hb
 obtain⟨ba,rfl⟩:=hb
 obtain⟨pt,ct,rfl⟩:=I.li.things.form
 obtain⟨pf,cf,rfl⟩:=I.li.feats.form
 unfold kp at CL
 clear I
 go_enter Tryz.func10,Tryz.ntmps10
 go_wp2_with fail
 refine CL.mono ?_
 rintro e2 w2 ⟨a,p1,m1,c1,p2,m2,c2,p3,m3,c3,rfl,g2,h2⟩
 obtain⟨q,hq⟩:∃ q,q=bgE r n cd ts F 1:=⟨_,rfl⟩
 have Hq:Hid (q=bgE r n cd ts F 1):=hq
 rw[←hq]
 obtain⟨V,hV⟩:∃ V,V=w2.alloc (.cells #[.pointer a,.slice p1 m1 c1,.slice p2 m2 c2,.slice p3 m3 c3] 136):=⟨_,rfl⟩
 have gV:w2.grownBy V none:=by rw[hV];exact World.grownBy_alloc _ _ none
 have HV:Hid (w.grownBy V none∧bY V w2.heap.size (.pointer a) (.slice p1 m1 c1) (.slice p2 m2 c2) (.slice p3 m3 c3)):=⟨aa g2 gV,by rw[hV];exact ai _ _ _⟩
 have H2:Hid (∀ R,r=0→bd n cd ts F=some R→bi V w.heap.size (.slice p3 m3 c3) (swL R F)):=fun R x y=>aA (h2 R x y).2.2.2 gV
 clear CL g2 h2 hq gV
 go_upto_region 2 with fail
 rw[←hV]
 obtain⟨n2,hn2⟩:∃ n2,n2=w2.heap.size:=⟨_,rfl⟩
 rw[←hn2] at HV ⊢
 clear hV hn2
 obtain⟨s0,s1,s2,s3⟩:=aR HV.out.2
 by_cases hq0:q=0
 ·have k0:(q != 0)=false:=by simpa using hq0
  obtain⟨hr,R,hR,hT⟩:=jl (Hq.out.symm.trans hq0)
  have HF:Hid (bi V w.heap.size (.slice p3 m3 c3) (swT r n cd ts F)∧q=0):=⟨by rw[ke (Hq.out.symm.trans hq0) hR];exact H2.out R hr hR,hq0⟩
  clear hq0 hr hR hT H2
  go_wp2_with fail
  refine bodyPost_ret (v:=.tuple #[.slice p3 m3 c3,.int .i64 0]) (by simp[results,Tryz.results10,go_sem]) rfl ⟨_,by rw[←Hq.out,HF.out.2],HF.out.1,HV.out.1⟩
 ·have k0:(q != 0)=true:=by simpa using hq0
  have HF:Hid (swT r n cd ts F=[]):=F4 (fun e=>hq0 (Hq.out.trans e))
  clear hq0 H2
  go_wp2_with fail
  refine bodyPost_ret (v:=.tuple #[.slice none 0 0,.int .i64 q]) (by simp[results,Tryz.results10,go_sem]) rfl ⟨_,by rw[←Hq.out],by rw[HF.out];exact ay.Own.nil _ _ _ _,HV.out.1⟩
def fk (r n:Int) (cd:Int→Hd×List Pt) (ts:List Th) (F:List Fe) (h:Hp):Ss :=
 if ¬laE r n cd ts F h=0 then Ss.none
 else if cG h=true then Ss.none
 else if (decide (h.vb=1) && jI cd ts h.on)=true then ⟨Hp.none,[],1,0⟩
 else cW cd ts F (swT r n cd ts F) h (Ss.begin h)
theorem ry {r n:Int} {cd:Int→Hd×List Pt} {ts:List Th} {F:List Fe} {h:Hp} (e:laE r n cd ts F h=0):bgE r n cd ts F 1=0∧bw ts h=true:=by
 unfold laE at e
 split at e
 ·rename_i hb
  split at e
  ·rename_i hm;exact⟨hb,hm⟩
  ·cases e
 ·rename_i hb;exact absurd e hb
theorem mD (bv vt vf:Value) (r n:Int) (cd:Int→Hd×List Pt) (ts:List Th) (F:List Fe) (h:Hp) (w:World) (I:SIn w bv vt vf r n cd ts F) (hb:∃ a,bv=.pointer a):Calls Tryz.prog 13 #[bv,vt,vf,hpv h] w fun e w'=>∃ p m c,e=.returned (.tuple #[dL (fk r n cd ts F h).af (.slice p m c) (fk r n cd ts F h).go (fk r n cd ts F h).li,.int .i64 (laE r n cd ts F h)])∧bi w' w.heap.size (.slice p m c) (fk r n cd ts F h).us∧w.grownBy w' none:=by
 obtain⟨ba,rfl⟩:=hb
 obtain⟨pt,ct,rfl⟩:=I.li.things.form
 obtain⟨pf,cf,rfl⟩:=I.li.feats.form
 obtain⟨W0,hW0⟩:∃ W0,W0=w.alloc (.cells #[.int .u8 h.vb,.int .i64 h.on,.int .i64 h.ct,.int .i64 h.ho,.bool h.vn,.bool h.dr] 43):=⟨_,rfl⟩
 obtain⟨W1,hW1⟩:∃ W1,W1=W0.alloc (.cells #[.int .u8 0,.int .i64 0,.int .i64 0,.int .i64 0,.bool false,.bool false,.slice none 0 0,.int .i64 0,.int .i64 0] 45):=⟨_,rfl⟩
 have g0:w.grownBy W0 none:=by rw[hW0];exact World.grownBy_alloc _ _ none
 have g1:W0.grownBy W1 none:=by rw[hW1];exact World.grownBy_alloc _ _ none
 have e0:W0.heap.size=w.heap.size+1:=by rw[hW0,World.size_alloc]
 have HG1:Hid (w.grownBy W1 none):=aa g0 g1
 have HH:Hid (HpB W1 w.heap.size h):=ae g1 (by rw[hW0];exact ai w _ _) (by simp)
 have HR:Hid (SwB W1 (w.heap.size+1) Hp.none (.slice none 0 0) 0 0):=by rw[←e0,hW1];exact ai _ _ _
 have HI:Hid (SIn W1 (.pointer ba) (.slice pt ts.length ct) (.slice pf F.length cf) r n cd ts F):=I.keep HG1.out
 have CL:=ix (.pointer ba) _ _ r n cd ts F h W1 HI.out ⟨ba,rfl⟩
 unfold iO hpv at CL
 have CN:=fun W=>jg h W
 unfold hpv at CN
 have hW1':W1=(w.alloc (.cells #[.int .u8 h.vb,.int .i64 h.on,.int .i64 h.ct,.int .i64 h.ho,.bool h.vn,.bool h.dr] 43)).alloc (.cells #[.int .u8 0,.int .i64 0,.int .i64 0,.int .i64 0,.bool false,.bool false,.slice none 0 0,.int .i64 0,.int .i64 0] 45):=by rw[hW1,hW0]
 unfold hpv
 clear I hW0 hW1 g0 g1 e0
 go_enter Tryz.func13,Tryz.ntmps13
 go_upto_region 1 with fail
 rw[←hW1']
 clear hW1'
 obtain⟨n0,hn0⟩:∃ n0,n0=w.heap.size:=⟨_,rfl⟩
 have Hn0:Hid (w.heap.size≤n0):=by rw[hn0];exact Nat.le_refl _
 simp only[←hn0] at HH HR ⊢
 obtain⟨n1,hn1⟩:∃ n1,n1=n0+1:=⟨_,rfl⟩
 have Hn1:Hid (w.heap.size≤n1∧n0≠n1):=⟨by have:=Hn0.out;omega,by omega⟩
 simp only[←hn1] at HR ⊢
 clear hn0 hn1
 obtain⟨x0,x1,x2,x3,x4,x5⟩:=aL HH.out
 go_wp2_with fail
 refine CL.mono ?_
 rintro e2 w2 ⟨a,p1,m1,c1,p2,m2,c2,p3,m3,c3,rfl,g2,h2⟩
 obtain⟨q,hq⟩:∃ q,q=laE r n cd ts F h:=⟨_,rfl⟩
 have Hq:Hid (q=laE r n cd ts F h):=hq
 rw[←hq]
 obtain⟨V,hV⟩:∃ V,V=w2.alloc (.cells #[.pointer a,.slice p1 m1 c1,.slice p2 m2 c2,.slice p3 m3 c3] 136):=⟨_,rfl⟩
 have gV:w2.grownBy V none:=by rw[hV];exact World.grownBy_alloc _ _ none
 have HV:Hid (W1.grownBy V none∧w.grownBy V none∧HpB V n0 h∧SwB V n1 Hp.none (.slice none 0 0) 0 0∧bY V w2.heap.size (.pointer a) (.slice p1 m1 c1) (.slice p2 m2 c2) (.slice p3 m3 c3)):=⟨aa g2 gV,aa HG1.out (aa g2 gV),ae (aa g2 gV) HH.out (by simp),ae (aa g2 gV) HR.out (by simp),by rw[hV];exact ai _ _ _⟩
 have H2:Hid (∀ R,r=0→bd n cd ts F=some R→bw ts h=true→.pointer a=Value.pointer ba∧.slice p1 m1 c1=Value.slice pt ts.length ct∧.slice p2 m2 c2=Value.slice pf F.length cf∧bi V W1.heap.size (.slice p3 m3 c3) (swL R F)):=fun R x y z=>by
  obtain⟨k1,k2,k3,k4⟩:=h2 R x y z
  exact⟨k1,k2,k3,aA k4 gV⟩
 clear CL g2 h2 hq gV x0 x1 x2 x3 x4 x5
 go_upto_region 2 with fail
 rw[←hV]
 obtain⟨n2,hn2⟩:∃ n2,n2=w2.heap.size:=⟨_,rfl⟩
 rw[←hn2] at HV ⊢
 clear hV hn2
 obtain⟨x0,x1,x2,x3,x4,x5⟩:=aL HV.out.2.2.1
 by_cases hq0:q=0
 case neg =>
  have k0:(q != 0)=true:=by simpa using hq0
  have HE:Hid (fk r n cd ts F h=Ss.none):=by show _=_;unfold fk;rw[if_pos (fun e=>hq0 (Hq.out.trans e))]
  clear hq0 H2
  go_wp2_with (refine wpList_store_row rfl 45 (.tmp 8) (.tmp 23) rfl n1 (swa Hp.none (.slice none 0 0) 0 0) rfl rfl 45 _ HV.out.2.2.2.1 (by kernel_rfl) rfl (by simp[swa,Value.oneCell',Hp.none]) ?_)
  obtain⟨Wr,hWr⟩:∃ Wr,Wr=V.setRow n1 (swa Hp.none (.slice none 0 0) 0 0):=⟨_,rfl⟩
  have HWr:Hid (SwB Wr n1 Hp.none (.slice none 0 0) 0 0∧V.grownBy Wr (some n1)):=⟨by rw[hWr];exact fC V n1 _ _ _ _ _ _ _ _ (HV.out.2.2.2.1),by rw[hWr];exact aO _ _ _⟩
  rw[←hWr]
  clear hWr
  obtain⟨r0,r1,r2,r3,r4,r5,r6,r7,r8⟩:=bz HWr.out.1
  refine bodyPost_ret (v:=.tuple #[dL Hp.none (.slice none 0 0) 0 0,.int .i64 q]) (by simp[results,Tryz.results13,go_sem,dL,r0,r1,r2,r3,r4,r5,r6,r7,r8]) rfl ⟨none,0,0,by rw[HE.out,←Hq.out];rfl,by rw[HE.out];exact ay.Own.nil _ _ _ _,am HV.out.2.1 HWr.out.2 (fun y e=>by cases e;exact Hn1.out.1)⟩
 have k0:(q != 0)=false:=by simpa using hq0
 have hla:=ry (Hq.out.symm.trans hq0)
 obtain⟨hr,R,hR,hT⟩:=jl hla.1
 obtain⟨k1,k2,k3,k4⟩:=H2.out R hr hR hla.2
 have HT:Hid (swT r n cd ts F=swL R F∧bi V W1.heap.size (.slice p3 m3 c3) (swL R F)∧laE r n cd ts F h=0∧bw ts h=true∧r=0∧Tab n cd ts F R∧q=0):=⟨ke hla.1 hR,k4,Hq.out.symm.trans hq0,hla.2,hr,hT,hq0⟩
 have HN:Hid (∀ X,V.grownBy X none→NIn X (.pointer a) (.slice p1 m1 c1) (.slice p2 m2 c2) (.slice p3 m3 c3) n cd ts F (swL R F)):=fun X qx=>by
  rw[k1,k2,k3]
  exact HI.out.scene hr hT (aa HV.out.1 qx) (aA k4 qx)
 clear hq0 hla hr hR hT k1 k2 k3 k4 H2
 obtain⟨b,hb⟩:∃ b,b=cG h:=⟨_,rfl⟩
 have Hb:Hid (b=cG h):=hb
 rw[←hb] at CN
 clear hb
 go_wp2_with fail
 refine(CN _).mono ?_
 rintro e4 w4 ⟨rfl,g4⟩
 have H4:Hid (V.grownBy w4 none∧HpB w4 n0 h∧SwB w4 n1 Hp.none (.slice none 0 0) 0 0∧bY w4 n2 (.pointer a) (.slice p1 m1 c1) (.slice p2 m2 c2) (.slice p3 m3 c3)):=⟨g4,ae g4 HV.out.2.2.1 (by simp),ae g4 HV.out.2.2.2.1 (by simp),ae g4 HV.out.2.2.2.2 (by simp)⟩
 clear CN g4 x0 x1 x2 x3 x4 x5
 cases b with
 | true =>
  have HE:Hid (fk r n cd ts F h=Ss.none):=by show _=_;unfold fk;rw[if_neg (fun e=>e HT.out.2.2.1),if_pos Hb.out.symm]
  go_wp2_with (refine wpList_store_row rfl 45 (.tmp 8) (.tmp 28) rfl n1 (swa Hp.none (.slice none 0 0) 0 0) rfl rfl 45 _ H4.out.2.2.1 (by kernel_rfl) rfl (by simp[swa,Value.oneCell',Hp.none]) ?_)
  obtain⟨Wr,hWr⟩:∃ Wr,Wr=w4.setRow n1 (swa Hp.none (.slice none 0 0) 0 0):=⟨_,rfl⟩
  have HWr:Hid (SwB Wr n1 Hp.none (.slice none 0 0) 0 0∧w4.grownBy Wr (some n1)):=⟨by rw[hWr];exact fC w4 n1 _ _ _ _ _ _ _ _ (H4.out.2.2.1),by rw[hWr];exact aO _ _ _⟩
  rw[←hWr]
  clear hWr
  obtain⟨r0,r1,r2,r3,r4,r5,r6,r7,r8⟩:=bz HWr.out.1
  refine bodyPost_ret (v:=.tuple #[dL Hp.none (.slice none 0 0) 0 0,.int .i64 0]) (by simp[results,Tryz.results13,go_sem,dL,r0,r1,r2,r3,r4,r5,r6,r7,r8]) rfl ⟨none,0,0,by rw[HE.out,HT.out.2.2.1];rfl,by rw[HE.out];exact ay.Own.nil _ _ _ _,am (aa HV.out.2.1 H4.out.1) HWr.out.2 (fun y e=>by cases e;exact Hn1.out.1)⟩
 | false =>
  have hnh:¬cG h=true:=by rw[←Hb.out];simp
  obtain⟨u0,u1,u2,u3⟩:=aR H4.out.2.2.2
  obtain⟨x0,x1,x2,x3,x4,x5⟩:=aL H4.out.2.1
  have hm2:=tj HT.out.2.2.2.1
  have CS:∀ X,V.grownBy X none→Calls Tryz.prog 65 #[ch (.pointer a) (.slice p1 m1 c1) (.slice p2 m2 c2) (.slice p3 m3 c3),.int .i64 h.on] X fun e w'=>e=.returned (.bool (jI cd ts h.on))∧X.grownBy w' none:=fun X qx=>kX _ _ _ _ n cd ts h.on X (HN.out X qx).at1 (HN.out X qx).card (HN.out X qx).few (HN.out X qx).be hm2.1
  have CA:∀ X,V.grownBy X none→Calls Tryz.prog 66 #[ch (.pointer a) (.slice p1 m1 c1) (.slice p2 m2 c2) (.slice p3 m3 c3),hpv h] X fun e w'=>∃ p m c,e=.returned (dL (cW cd ts F (swL R F) h (Ss.begin h)).af (.slice p m c) (cW cd ts F (swL R F) h (Ss.begin h)).go (cW cd ts F (swL R F) h (Ss.begin h)).li)∧bi w' X.heap.size (.slice p m c) (cW cd ts F (swL R F) h (Ss.begin h)).us∧X.grownBy w' none:=fun X qx=>A7 _ _ _ _ n cd ts F (swL R F) h X (HN.out X qx) HT.out.2.2.2.1 (AV HT.out.2.2.2.2.2.1 (HI.out.li.book HT.out.2.2.2.2.1).1.few) (fun s hs=>(tY HT.out.2.2.2.2.2.1 HI.out.good hs).2)
  unfold ch at CS CA
  unfold hpv at CA
  have HE0:Hid (¬cG h=true):=hnh
  clear hnh hm2
  by_cases v1:h.vb=1
  ·have Hv1:Hid (h.vb=1):=v1
   rw[v1] at x0
   have CS1:=CS w4 H4.out.1
   obtain⟨s,hs⟩:∃ s,s=jI cd ts h.on:=⟨_,rfl⟩
   have Hs:Hid (s=jI cd ts h.on):=hs
   rw[←hs] at CS1
   clear v1 hs CS
   go_wp2_with fail
   refine CS1.mono ?_
   rintro e5 w5 ⟨rfl,g5⟩
   have H5:Hid (V.grownBy w5 none∧HpB w5 n0 h∧SwB w5 n1 Hp.none (.slice none 0 0) 0 0∧bY w5 n2 (.pointer a) (.slice p1 m1 c1) (.slice p2 m2 c2) (.slice p3 m3 c3)):=⟨aa H4.out.1 g5,ae g5 H4.out.2.1 (by simp),ae g5 H4.out.2.2.1 (by simp),ae g5 H4.out.2.2.2 (by simp)⟩
   clear CS1 g5 x0 x1 x2 x3 x4 x5 u0 u1 u2 u3
   cases s with
   | true =>
    have HE:Hid (fk r n cd ts F h=⟨Hp.none,[],1,0⟩):=by show _=_;unfold fk;rw[if_neg (fun e=>e HT.out.2.2.1),if_neg HE0.out,if_pos (by rw[decide_eq_true Hv1.out,←Hs.out];rfl)]
    go_wp2_with (refine wpList_store_row rfl 45 (.tmp 8) (.tmp 39) rfl n1 (swa Hp.none (.slice none 0 0) 1 0) rfl rfl 45 _ H5.out.2.2.1 (by kernel_rfl) rfl (by simp[swa,Value.oneCell',Hp.none]) ?_)
    obtain⟨Wr,hWr⟩:∃ Wr,Wr=w5.setRow n1 (swa Hp.none (.slice none 0 0) 1 0):=⟨_,rfl⟩
    have HWr:Hid (SwB Wr n1 Hp.none (.slice none 0 0) 1 0∧w5.grownBy Wr (some n1)):=⟨by rw[hWr];exact fC w5 n1 _ _ _ _ _ _ _ _ (H5.out.2.2.1),by rw[hWr];exact aO _ _ _⟩
    rw[←hWr]
    clear hWr
    obtain⟨r0,r1,r2,r3,r4,r5,r6,r7,r8⟩:=bz HWr.out.1
    refine bodyPost_ret (v:=.tuple #[dL Hp.none (.slice none 0 0) 1 0,.int .i64 0]) (by simp[results,Tryz.results13,go_sem,dL,r0,r1,r2,r3,r4,r5,r6,r7,r8]) rfl ⟨none,0,0,by rw[HE.out,HT.out.2.2.1],by rw[HE.out];exact ay.Own.nil _ _ _ _,am (aa HV.out.2.1 H5.out.1) HWr.out.2 (fun y e=>by cases e;exact Hn1.out.1)⟩
   | false =>
    have HE:Hid (fk r n cd ts F h=cW cd ts F (swL R F) h (Ss.begin h)):=by show _=_;unfold fk;rw[if_neg (fun e=>e HT.out.2.2.1),if_neg HE0.out,if_neg (by rw[←Hs.out];simp),HT.out.1]
    obtain⟨u0,u1,u2,u3⟩:=aR H5.out.2.2.2
    obtain⟨x0,x1,x2,x3,x4,x5⟩:=aL H5.out.2.1
    have CA1:=CA w5 H5.out.1
    have HW5:Hid (SwB w5 n1 Hp.none (.slice none 0 0) 0 0∧V.grownBy w5 none):=⟨H5.out.2.2.1,H5.out.1⟩
    clear CA
    go_wp2_with fail
    refine CA1.mono ?_
    rintro e6 w6 ⟨p6,m6,c6,rfl,o6,g6⟩
    obtain⟨X,hX⟩:∃ X,X=cW cd ts F (swL R F) h (Ss.begin h):=⟨_,rfl⟩
    rw[←hX] at HE o6 ⊢
    have H6:Hid (bi w6 W1.heap.size (.slice p6 m6 c6) X.us∧SwB w6 n1 Hp.none (.slice none 0 0) 0 0∧w.grownBy w6 none):=⟨aY o6 (Nat.le_trans HV.out.1.size HW5.out.2.size),ae g6 HW5.out.1 (by simp),aa HV.out.2.1 (aa HW5.out.2 g6)⟩
    clear CA1 o6 g6 hX x0 x1 x2 x3 x4 x5 u0 u1 u2 u3
    unfold dL
    go_wp2_with (refine wpList_store_row rfl 45 (.tmp 8) (.tmp 42) rfl n1 (swa X.af (.slice p6 m6 c6) X.go X.li) rfl rfl 45 _ H6.out.2.1 (by kernel_rfl) rfl (by simp[swa,Value.oneCell']) ?_)
    obtain⟨Wr,hWr⟩:∃ Wr,Wr=w6.setRow n1 (swa X.af (.slice p6 m6 c6) X.go X.li):=⟨_,rfl⟩
    have HWr:Hid (SwB Wr n1 X.af (.slice p6 m6 c6) X.go X.li∧w6.grownBy Wr (some n1)):=⟨by rw[hWr];exact fC w6 n1 _ _ _ _ _ _ _ _ (H6.out.2.1),by rw[hWr];exact aO _ _ _⟩
    rw[←hWr]
    clear hWr
    obtain⟨r0,r1,r2,r3,r4,r5,r6,r7,r8⟩:=bz HWr.out.1
    refine bodyPost_ret (v:=.tuple #[dL X.af (.slice p6 m6 c6) X.go X.li,.int .i64 0]) (by simp[results,Tryz.results13,go_sem,dL,r0,r1,r2,r3,r4,r5,r6,r7,r8]) rfl ⟨p6,m6,c6,by rw[HE.out,HT.out.2.2.1],?_,am H6.out.2.2 HWr.out.2 (fun y e=>by cases e;exact Hn1.out.1)⟩
    rw[HE.out]
    exact aY (bX H6.out.1 HWr.out.2 H6.out.2.1 (by decide)) HG1.out.size
  ·have k1:(h.vb == 1)=false:=by simpa using v1
   have HE:Hid (fk r n cd ts F h=cW cd ts F (swL R F) h (Ss.begin h)):=by show _=_;unfold fk;rw[if_neg (fun e=>e HT.out.2.2.1),if_neg HE0.out,if_neg (by rw[decide_eq_false v1];simp),HT.out.1]
   have CA1:=CA w4 H4.out.1
   have HW5:Hid (SwB w4 n1 Hp.none (.slice none 0 0) 0 0∧V.grownBy w4 none):=⟨H4.out.2.2.1,H4.out.1⟩
   clear CA CS v1
   go_wp2_with fail
   refine CA1.mono ?_
   rintro e6 w6 ⟨p6,m6,c6,rfl,o6,g6⟩
   obtain⟨X,hX⟩:∃ X,X=cW cd ts F (swL R F) h (Ss.begin h):=⟨_,rfl⟩
   rw[←hX] at HE o6 ⊢
   have H6:Hid (bi w6 W1.heap.size (.slice p6 m6 c6) X.us∧SwB w6 n1 Hp.none (.slice none 0 0) 0 0∧w.grownBy w6 none):=⟨aY o6 (Nat.le_trans HV.out.1.size HW5.out.2.size),ae g6 HW5.out.1 (by simp),aa HV.out.2.1 (aa HW5.out.2 g6)⟩
   clear CA1 o6 g6 hX x0 x1 x2 x3 x4 x5 u0 u1 u2 u3
   unfold dL
   go_wp2_with (refine wpList_store_row rfl 45 (.tmp 8) (.tmp 42) rfl n1 (swa X.af (.slice p6 m6 c6) X.go X.li) rfl rfl 45 _ H6.out.2.1 (by kernel_rfl) rfl (by simp[swa,Value.oneCell']) ?_)
   obtain⟨Wr,hWr⟩:∃ Wr,Wr=w6.setRow n1 (swa X.af (.slice p6 m6 c6) X.go X.li):=⟨_,rfl⟩
   have HWr:Hid (SwB Wr n1 X.af (.slice p6 m6 c6) X.go X.li∧w6.grownBy Wr (some n1)):=⟨by rw[hWr];exact fC w6 n1 _ _ _ _ _ _ _ _ (H6.out.2.1),by rw[hWr];exact aO _ _ _⟩
   rw[←hWr]
   clear hWr
   obtain⟨r0,r1,r2,r3,r4,r5,r6,r7,r8⟩:=bz HWr.out.1
   refine bodyPost_ret (v:=.tuple #[dL X.af (.slice p6 m6 c6) X.go X.li,.int .i64 0]) (by simp[results,Tryz.results13,go_sem,dL,r0,r1,r2,r3,r4,r5,r6,r7,r8]) rfl ⟨p6,m6,c6,by rw[HE.out,HT.out.2.2.1],?_,am H6.out.2.2 HWr.out.2 (fun y e=>by cases e;exact Hn1.out.1)⟩
   rw[HE.out]
   exact aY (bX H6.out.1 HWr.out.2 H6.out.2.1 (by decide)) HG1.out.size
end Go.Proofs.YthfjgpjcepmnmaaGreat
