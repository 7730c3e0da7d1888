import Derived.Test.YthfjgpjcepmnmaaGreatO0
import Derived.Test.YthfjgpjcepmnmaaGreatO35
import Derived.Test.YthfjgpjcepmnmaaGreatRyE
import Derived.Test.YthfjgpjcepmnmaaGreatO33
import Derived.Test.YthfjgpjcepmnmaaGreatO25
namespace Go.Proofs.YthfjgpjcepmnmaaGreat
set_option maxRecDepth 100000
set_option maxHeartbeats 4000000
open Go.RowKit Go.Shelf
theorem Tab.becomes2 {n:Int} {cd:Int→Hd×List Pt} {ts:List Th} {fs:List Fe} {R:List Rw} {a:Se} (h:Tab n cd ts fs R) (hro:a.ro<R.length) (hth:a.s.th=(R.getD a.ro Rw.none).nu) (j:Nat):(dN fs R (bp R (au R fs) a)).getD j Fe.none=if ((j:Int)+1)∈eB R (bg R (au R fs) a) then gR (fs.getD j Fe.none) a.s.wh (fs.getD (a.s.th - 1).toNat Fe.none).ho else fs.getD j Fe.none:=by
 have q:=fR (fs:=fs) (F:=bp R (au R fs) a) h.nod h.nu R.length (Nat.le_refl _)
 have pk:∀ i,i<R.length→(au R fs).getD i Fe.none=fs.getD ((R.getD i Rw.none).nu - 1).toNat Fe.none:=fun i hi=>by
  rw[aw (by rw[ei];exact hi)]
  unfold au
  rw[List.getElem_map,←aw (d:=Rw.none) hi]
 by_cases z:∃ i,i<R.length∧(R.getD i Rw.none).nu=(j:Int)+1
 ·obtain⟨i,hi,e⟩:=z
  have e1:=q.1 i hi
  rw[e,show ((j:Int)+1 - 1).toNat=j by omega,yj (by rw[ei];exact hi)] at e1
  have e2:(dN fs R (bp R (au R fs) a)).getD j Fe.none=iZ R (au R fs) a i:=by
   rw[List.getD_eq_getElem?_getD]
   unfold dN
   rw[e1]
   rfl
  rw[e2]
  unfold iZ
  rw[pk i hi,e,show ((j:Int)+1 - 1).toNat=j by omega,pk a.ro hro,←hth]
  by_cases hb:fp R (au R fs) a i=true
  ·rw[if_pos hb,if_pos (iV.2 ⟨i,hi,hb,e⟩)]
  ·rw[if_neg hb,if_neg]
   intro hm
   obtain⟨i',hi',hb',e'⟩:=iV.1 hm
   have:=kI h.nod hi hi' (by rw[e,e'])
   subst this
   exact hb hb'
 ·have hz:∀ i,i<R.length→(R.getD i Rw.none).nu≠(j:Int)+1:=fun i hi e=>z ⟨i,hi,e⟩
  have e1:=q.2 j hz
  rw[if_neg (fun hm=>by obtain⟨i',hi',_,e'⟩:=iV.1 hm;exact hz i' hi' e'),List.getD_eq_getElem?_getD,List.getD_eq_getElem?_getD]
  unfold dN
  rw[e1]
theorem xP {n:Int} {cd:Int→Hd×List Pt} {ts:List Th} {fs:List Fe} {R:List Rw} (h:Tab n cd ts fs R) (F:List Fe) (a:Se):(eB R (bg R F a)).Nodup:=(h.rise F a).imp (fun {x y} q e=>by subst e;exact Int.lt_irrefl _ q)
structure DnU (F:List Fe) (l:List Int) (wh:Pt) (ho:Int) (k:Nat) (X:List Fe):Prop where
 len:X.length=F.length
 is:∀ j:Nat,j<F.length→X.getD j Fe.none=if ((j:Int)+1)∈l.take k then gR (F.getD j Fe.none) wh ho else F.getD j Fe.none
theorem DnU.start (F:List Fe) (l:List Int) (wh:Pt) (ho:Int):DnU F l wh ho 0 F:=⟨rfl,fun j _=>by rw[if_neg (by simp)]⟩
theorem DnU.old {F X:List Fe} {l:List Int} {wh:Pt} {ho:Int} {k u:Nat} (h:DnU F l wh ho k X) (hn:l.Nodup) (hk:l[k]?=some ((u:Int)+1)) (hu:u<F.length):X.getD u Fe.none=F.getD u Fe.none:=by
 rw[h.is u hu,if_neg]
 intro hm
 obtain⟨i,hi,e⟩:=List.getElem_of_mem hm
 have hi2:i<k:=by rw[List.length_take] at hi;omega
 have e2:l[i]?=some ((u:Int)+1):=by
  rw[←e]
  rw[List.getElem_take]
  exact List.getElem?_eq_getElem _
 obtain⟨h1,e3⟩:=List.getElem?_eq_some_iff.1 hk
 obtain⟨h2,e4⟩:=List.getElem?_eq_some_iff.1 e2
 have:=(List.getElem_inj (h₀:=h2) (h₁:=h1) hn).1 (e4.trans e3.symm)
 omega
theorem DnU.step {F X:List Fe} {l:List Int} {wh:Pt} {ho:Int} {k u:Nat} {f:Fe} (h:DnU F l wh ho k X) (hn:l.Nodup) (hk:l[k]?=some ((u:Int)+1)) (hu:u<F.length) (hf:X.getD u Fe.none=f):DnU F l wh ho (k+1) (X.set u (gR f wh ho)):=by
 have hold:=h.old hn hk hu
 refine⟨by rw[List.length_set];exact h.len,fun j hj=>?_⟩
 have ht:l.take (k+1)=l.take k++[(u:Int)+1]:=by rw[List.take_add_one,hk];rfl
 by_cases e:j=u
 ·subst e
  rw[if_pos (by rw[ht];simp),List.getD_eq_getElem?_getD,List.getElem?_set_self (by rw[h.len];exact hj),←hf,hold]
  rfl
 ·rw[List.getD_eq_getElem?_getD,List.getElem?_set_ne (by omega),←List.getD_eq_getElem?_getD,h.is j hj,ht]
  have:(((j:Int)+1)∈l.take k++[(u:Int)+1])↔(((j:Int)+1)∈l.take k):=by
   rw[List.mem_append,List.mem_singleton]
   exact⟨fun z=>z.elim id (fun y=>by omega),Or.inl⟩
  simp only[this]
theorem DnU.end {n:Int} {cd:Int→Hd×List Pt} {ts:List Th} {F X:List Fe} {R:List Rw} {a:Se} (hT:Tab n cd ts F R) (hro:a.ro<R.length) (hth:a.s.th=(R.getD a.ro Rw.none).nu) (h:DnU F (eB R (bg R (au R F) a)) a.s.wh (F.getD (a.s.th - 1).toNat Fe.none).ho (eB R (bg R (au R F) a)).length X):X=dN F R (bp R (au R F) a):=by
 have hl:(dN F R (bp R (au R F) a)).length=F.length:=js _ _ _
 refine List.ext_getElem (by rw[h.len,hl]) fun j h1 h2=>?_
 have hj:j<F.length:=by rw[←h.len];exact h1
 rw[←aw (d:=Fe.none) h1,←aw (d:=Fe.none) h2,hT.becomes2 hro hth j,h.is j hj,List.take_length]
theorem wrS {j n:Nat} (h:j<n) (hn:n≤2048):wrap64 (j:Int)=(j:Int)∧IntKind.i64.wrap (j:Int)=(j:Int)∧(j:Int)<(n:Int):=⟨by unfold wrap64;omega,by rw[IntWalk.i64_in _ (by omega)],by omega⟩
theorem DD {n:Int} {cd:Int→Hd×List Pt} {ts:List Th} {fs:List Fe} {R:List Rw} (h:Tab n cd ts fs R) {F:List Fe} {a:Se} {l:List Int} (hl:l=eB R (bg R F a)) {k:Nat} (hk:k<l.length):∃ u:Nat,l.getD k 0=(u:Int)+1∧u<fs.length∧l[k]?=some ((u:Int)+1):=by
 have h1:=h.num (x:=l.getD k 0) (F:=F) (a:=a) (by rw[←hl,aw hk];exact List.getElem_mem _)
 refine⟨(l.getD k 0 - 1).toNat,by have:=h1.1;omega,by have:=h1.1;have:=h1.2.1;omega,?_⟩
 rw[List.getElem?_eq_getElem hk,←aw (d:=(0:Int)) hk]
 have:=h1.1
 congr 1
 omega
theorem BG {w:World} {base g n c:Nat} {l:List Fe} (O:bO w base (.slice (some ⟨g,0,none⟩) n c) l) (j:Nat):w.frozen? ⟨g,j,none⟩=false:=by
 obtain⟨p,q,e⟩:=ay.Own.form O
 cases e
 exact World.ownsRow.frozenAt O j
theorem wg {w:World} {base g n c:Nat} {X:List Fe} (h:bO w base (.slice (some ⟨g,0,none⟩) n c) X) {i:Nat} {x:Fe} (hx:X[i]?=some x):w.rangeAt g (i*5) (fec x):=by
 have h2:=fW (n:=n) (c:=c) (ay.Own.at h) hx
 rw[Nat.zero_add] at h2
 exact h2
theorem mX (ok:Nat→Prop) (r:Nat) (v:Value) (p:Pl) (gs:List Ent) (vt vf:Value) (ts:List Th) (F:List Fe) (R:List Rw) (s:Sd) (ro:Nat) (w:World) (B:RD ok w r v p gs) (A:thR.At w vt ts) (AF:feR.At w vf F) (hT:Tab (gs.length:Int) (atC p gs) ts F R) (hr:ro<R.length) (hs:(R.getD ro Rw.none).nu=s.th) (hl:ts.length≤2048):Calls Tryz.prog 102 #[.pointer (some ⟨r,0,none⟩),vt,vf,sdv s] w fun e w'=>∃ v,e=.returned v∧bO w' w.heap.size v (dN F R (bp R (au R F) ⟨s,ro⟩))∧w.grownBy w' none:=by
 obtain⟨iF,hiF,hF0,hF1,hF2⟩:=info_parts Tryz.linfoF
 obtain⟨pt,ct,rfl⟩:=A.form
 obtain⟨pf,cf,rfl⟩:=AF.form
 obtain⟨V,hV⟩:∃ V,V=w.alloc (.cells #[.int .i64 s.th,.int .i64 s.pl,.int .u8 s.wh.wn,.int .u8 s.wh.vb,.int .u8 s.wh.wm,.int .i64 s.wh.ct,.int .u8 s.wh.su,.int .u8 s.wh.tr,.int .u8 s.wh.mr,.string s.wh.nm] 40):=⟨_,rfl⟩
 have HV:Hid (SdB V w.heap.size s∧w.grownBy V none∧RD ok V r v p gs∧thR.At V (.slice pt ts.length ct) ts∧feR.At V (.slice pf F.length cf) F):=by
  have gr:w.grownBy V none:=by rw[hV];exact World.grownBy_alloc _ _ none
  exact⟨by rw[hV];exact ai _ _ _,gr,B.keep gr,A.keep gr,AF.keep gr⟩
 have HT:Hid (Tab (gs.length:Int) (atC p gs) ts F R∧ro<R.length∧(R.getD ro Rw.none).nu=s.th∧ts.length≤2048∧F.length≤2048):=⟨hT,hr,hs,hl,by rw[←hT.len];exact hl⟩
 unfold sdv
 clear B A AF hT hr hs hl
 go_enter Tryz.func102,Tryz.ntmps102
 go_upto_region 1 with fail
 rw[←hV]
 obtain⟨n0,hn0⟩:∃ n0,n0=w.heap.size:=⟨_,rfl⟩
 have Hn0:Hid (n0=w.heap.size):=hn0
 rw[←hn0] at HV ⊢
 have HnV:Hid (n0<V.heap.size):=bf HV.out.1
 clear hV hn0
 have HSrc:Hid (Src V (.slice pf F.length cf) F.length 5 (feR.cs F)):=ay.At.src HV.out.2.2.2.2
 have HL5:Hid (0+F.length≤maxLen∧(0+F.length)*32≤140737488355328):=by have:=HT.out.2.2.2.2;exact⟨by unfold maxLen;omega,by omega⟩
 go_upto_region 3 with (at_builtin;refine cm (by rfl) (.tmp 13) (.tmp 14) 24 rfl V.heap.size 65 iF _ 5 32 Tryz.underlying24 hiF hF0 hF1 hF2 rfl (by decide) (.slice none 0 0) 0 [] rfl ⟨rfl,Or.inl ⟨rfl,rfl⟩⟩ _ F.length (feR.cs F) rfl HSrc.out (feR.ones F) HL5.out.1 HL5.out.2 (Nat.le_refl _) ?_;intro v9 w9 o9 g9 _;have HO9:Hid (bO w9 V.heap.size v9 F):=(by have h9:=o9;rw[Nat.zero_add,List.nil_append] at h9;exact h9);have HG9:Hid (V.grownBy w9 none):=g9;clear o9 g9)
 obtain⟨q9,c9,ev⟩:=ay.Own.form HO9.out
 subst ev
 have CA:=jn ok r v p gs _ _ ts F R s ro w9 (HV.out.2.2.1.keep HG9.out) (HV.out.2.2.2.1.keep HG9.out) (HV.out.2.2.2.2.keep HG9.out) HT.out.1 HT.out.2.1 HT.out.2.2.1 HT.out.2.2.2.1
 unfold sdv at CA
 have HS9:Hid (SdB w9 n0 s∧w.grownBy w9 none∧feR.At w9 (.slice pf F.length cf) F):=⟨ae HG9.out HV.out.1 (by simp),aa HV.out.2.1 HG9.out,HV.out.2.2.2.2.keep HG9.out⟩
 obtain⟨s0,s1,s2,s3,s4,s5,s6,s7,s8,s9⟩:=aT HS9.out.1
 clear HSrc HL5
 go_wp2_with fail
 refine CA.mono ?_
 rintro e1 w1 ⟨v1,rfl,o1,g1⟩
 obtain⟨l,hl⟩:∃ l,l=eB R (bg R (au R F) ⟨s,ro⟩):=⟨_,rfl⟩
 have HL:Hid (l=eB R (bg R (au R F) ⟨s,ro⟩)∧l.Nodup∧l.length≤16):=⟨hl,by rw[hl];exact xP HT.out.1 _ _,by rw[hl];exact Nat.le_trans (mC _ _ _) HT.out.1.few⟩
 rw[←hl] at o1
 obtain⟨pl,cl,ev⟩:=aU.form o1
 subst ev
 have H1:Hid (aU w1 w9.heap.size (.slice pl l.length cl) l∧w9.grownBy w1 none∧bO w1 V.heap.size (.slice q9 F.length c9) F∧SdB w1 n0 s∧w.grownBy w1 none∧feR.At w1 (.slice pf F.length cf) F):=⟨o1,g1,aA HO9.out g1,ae g1 HS9.out.1 (by simp),aa HS9.out.2.1 g1,HS9.out.2.2.keep g1⟩
 obtain⟨z,t,hzt,-,hzn,-⟩:=HT.out.1.from (show R.getD ro Rw.none∈R by rw[aw HT.out.2.1];exact List.getElem_mem _)
 have hzl:z<F.length:=by rw[←HT.out.1.len];exact(List.getElem?_eq_some_iff.1 hzt).1
 have hz:s.th=(z:Int)+1:=by rw[←HT.out.2.2.1,hzn]
 obtain⟨g,hg⟩:∃ g,F[z]?=some g:=⟨_,List.getElem?_eq_getElem hzl⟩
 have Hz:Hid (s.th=(z:Int)+1∧F[z]?=some g∧F.getD (s.th - 1).toNat Fe.none=g):=⟨hz,hg,by rw[hz,toN,List.getD_eq_getElem?_getD,hg];rfl⟩
 clear CA o1 g1 HV HO9 HG9 HS9 s0 s1 s2 s3 s4 s5 s6 s7 s8 s9 hl hzt hzn
 obtain⟨s0,s1,s2,s3,s4,s5,s6,s7,s8,s9⟩:=aT H1.out.2.2.2.1
 rw[hz] at s0
 obtain⟨gF,oF,cF,eF,-⟩:=dG H1.out.2.2.2.2.2 hzl
 injection eF with eF eF2 eF3
 clear eF2 eF3
 subst eF
 obtain⟨g0,-⟩:=cC (fW H1.out.2.2.2.2.2 hg)
 obtain⟨wz,wz2,z1⟩:=wrS hzl HT.out.2.2.2.2
 clear hz hzl hg
 go_upto_region 5 with fail
 clear s0 s1 s2 s3 s4 s5 s6 s7 s8 s9 g0 wz wz2 z1
 go_wp2_with fail
 go_loopw [12] (fun y wr=>∃ (k:Nat) (X:List Fe),k≤l.length∧y=.int .i64 (k:Int)∧Hid (DnU F l s.wh g.ho k X∧bO wr V.heap.size (.slice q9 F.length c9) X∧aU wr w9.heap.size (.slice pl l.length cl) l∧SdB wr n0 s∧w.grownBy wr none∧n0<V.heap.size)) (fun y _=>l.length - (intOf y).toNat)
 case atStart=>exact⟨0,F,Nat.zero_le _,rfl,DnU.start _ _ _ _,H1.out.2.2.1,H1.out.1,H1.out.2.2.2.1,H1.out.2.2.2.2.1,HnV.out⟩
 case round =>
  obtain⟨k,X,hk',rfl,HX⟩:=hrel
  obtain⟨U,hU⟩:∃ U,U=wr:=⟨_,rfl⟩
  subst hU
  by_cases hk:k<l.length
  ·have k1:(k:Int)<(l.length:Int):=Int.ofNat_lt.2 hk
   have hwk:=aK (k:=k) (Nat.le_trans (Nat.le_of_lt hk) (Nat.le_trans HL.out.2.2 (by decide)))
   have HM:Hid (l.length - (intOf (.int .i64 ((k:Int)+1))).toNat<l.length - (intOf (.int .i64 (k:Int))).toNat):=bF hk
   obtain⟨gl,ep,cl0⟩:=j7 HX.out.2.2.1 hk
   subst ep
   obtain⟨u,hu,hul,hlk⟩:=DD HT.out.1 HL.out.1 hk
   rw[hu] at cl0
   have hXl:X.length=F.length:=HX.out.1.len
   obtain⟨f,hf⟩:∃ f,X[u]?=some f:=⟨_,List.getElem?_eq_getElem (by rw[hXl];exact hul)⟩
   obtain⟨gq,cq,eq,hqb,-⟩:=em HX.out.2.1 (show 0<X.length by rw[hXl];exact Nat.lt_of_le_of_lt (Nat.zero_le _) hul)
   injection eq with eq eq2 eq3
   clear eq2 eq3
   subst eq
   have Hu:Hid (l[k]?=some ((u:Int)+1)∧u<F.length∧X[u]?=some f∧X.length=F.length∧k<l.length∧V.heap.size≤gq):=⟨hlk,hul,hf,hXl,hk,hqb⟩
   obtain⟨wu,wu2,u1⟩:=wrS hul HT.out.2.2.2.2
   obtain⟨f0,f1,f2,f3,f4⟩:=cC (wg HX.out.2.1 hf)
   obtain⟨-,-,s2,s3,s4,s5,s6,s7,s8,s9⟩:=aT HX.out.2.2.2.1
   have hneL:some gl≠some gq:=by obtain⟨cs9,fr9,hb9⟩:=ja HX.out.2.2.1 gl rfl;exact bE HX.out.2.1 hb9 (by decide)
   have hneS:some n0≠some gq:=fun q=>by cases q;have h1:=HX.out.2.2.2.2.2;omega
   have CD:=xq f s.wh g.ho U.drew
   unfold fev pv at CD
   obtain⟨d,hd⟩:∃ d,d=gR f s.wh g.ho:=⟨_,rfl⟩
   have Hd:Hid (d=gR f s.wh g.ho):=hd
   rw[←hd] at CD
   clear hk hk' hu hul hlk hXl hf hqb hd
   go_upto_region 8 with fail
   refine wp_region_held_drew (S:=fun w'=>U.grownBy w' (some gq)) (by kernel_rfl) (de _ _) (fun hHeld=>?_)
   refine QZ 0 rfl ?_
   go_frame
   refine QZ 1 rfl ?_
   go_frame
   refine QZ 2 rfl ?_
   go_frame
   refine QZ 3 rfl ?_
   go_frame
   refine QT 4 rfl (by intro w0 hSw;have cl0:=hSw.cell cl0 hneL;go_simp;try with_reducible rfl) ?_
   go_frame
   refine QZ 5 rfl ?_
   go_frame
   refine QZ 6 rfl ?_
   go_frame
   refine QZ 7 rfl ?_
   go_frame
   refine QZ 8 rfl ?_
   go_frame
   refine QZ 9 rfl ?_
   go_frame
   refine QT 10 rfl (by intro w0 hSw;have cl0:=hSw.cell cl0 hneL;go_simp;try with_reducible rfl) ?_
   go_frame
   refine QZ 11 rfl ?_
   go_frame
   refine QZ 12 rfl ?_
   go_frame
   refine QZ 14 rfl ?_
   go_frame
   refine QT 15 rfl (by intro w0 hSw;have s2:=hSw.cell s2 hneS;have s3:=hSw.cell s3 hneS;have s4:=hSw.cell s4 hneS;have s5:=hSw.cell s5 hneS;have s6:=hSw.cell s6 hneS;have s7:=hSw.cell s7 hneS;have s8:=hSw.cell s8 hneS;have s9:=hSw.cell s9 hneS;go_simp;try with_reducible rfl) ?_
   go_frame
   refine QZ 16 rfl ?_
   go_frame
   refine QR 13 rfl (fun K9 hK=>?_)
   go_simp
   refine hK.out _ _ (de _ _) (fun hHeld3=>?_)
   clear hK K9
   (try go_frame)
   refine QR 17 rfl (fun K hK=>?_)
   go_simp
   go_at_call 173
   refine(CD).mono ?_
   rintro e2 w2 ⟨rfl,g2⟩
   have HG2:Hid (U.grownBy w2 none):=aa (ag _) g2
   clear CD g2
   refine hK.out _ _ (eJ HG2.out _) (fun hHeld2=>?_)
   clear hK K
   (try go_frame)
   refine QZ 18 rfl ?_
   go_frame
   have HO2:Hid (bO w2 V.heap.size (.slice (some ⟨gq,0,none⟩) F.length c9) X∧aU w2 w9.heap.size (.slice (some ⟨gl,0,none⟩) l.length cl) l∧SdB w2 n0 s∧w.grownBy w2 none):=⟨aA HX.out.2.1 HG2.out,aA HX.out.2.2.1 HG2.out,ae HG2.out HX.out.2.2.2.1 (by simp),aa HX.out.2.2.2.2.1 HG2.out⟩
   clear f0 f1 f2 f3 f4 s2 s3 s4 s5 s6 s7 s8 s9 cl0
   obtain⟨f0,f1,f2,f3,f4⟩:=cC (wg HO2.out.1 Hu.out.2.2.1)
   have rf:=BG HO2.out.1
   have SG:=ay.Own.set (R:=feR) HO2.out.1 Hu.out.2.2.2.1 Hu.out.2.1 d
   obtain⟨Z,hZ⟩:∃ Z,Z=w2.setCells gq (u*5) (fec d):=⟨_,rfl⟩
   have HZ:Hid (bO Z V.heap.size (.slice (some ⟨gq,0,none⟩) F.length c9) (X.set u d)∧w2.grownBy Z (some gq)):=by rw[hZ];exact SG
   have hZ':(((((w2.setCell ⟨gq,u*5,none⟩ (.int .i64 d.ho)).setCell ⟨gq,u*5+1,none⟩ (.int .u8 d.su)).setCell ⟨gq,u*5+2,none⟩ (.int .u16 d.tr)).setCell ⟨gq,u*5+3,none⟩ (.int .i64 d.po)).setCell ⟨gq,u*5+4,none⟩ (.int .i64 d.he))=Z:=by rw[hZ];rfl
   have HZS:Hid (U.grownBy Z (some gq)):=aa (eJ HG2.out _) HZ.out.2
   clear SG hZ
   refine QR 19 rfl (fun K9 hK=>?_)
   go_simp
   clear hZ'
   refine hK.out _ _ (HZS.out) (fun hHeld3=>?_)
   clear hK K9
   (try go_frame)
   refine QD ?_
   clear f0 f1 f2 f3 f4 rf hHeld hHeld2
   go_wp2_with fail
   go_roundw
   case rel=>exact⟨k+1,X.set u d,Hu.out.2.2.2.2.1,by first | rfl | (rw[hwk];rfl) | go_num,by rw[Hd.out];exact HX.out.1.step HL.out.2.1 Hu.out.1 Hu.out.2.1 (by rw[List.getD_eq_getElem?_getD,Hu.out.2.2.1];rfl),HZ.out.1,dz HO2.out.2.1 HO2.out.1 (by decide) HZ.out.2,ae HZ.out.2 HO2.out.2.2.1 (fun q=>by cases q;have h1:=HX.out.2.2.2.2.2;have h2:=Hu.out.2.2.2.2.2;omega),am HO2.out.2.2.2 HZ.out.2 (fun y e=>by cases e;exact Nat.le_trans (by rw[←Hn0.out];exact Nat.le_of_lt HX.out.2.2.2.2.2) Hu.out.2.2.2.2.2),HX.out.2.2.2.2.2⟩
   case measure=>first | exact HM.out | (rw[hwk];exact HM.out)
  ·obtain rfl:k=l.length:=Nat.le_antisymm hk' (Nat.le_of_not_lt hk)
   have k1:¬(l.length:Int)<(l.length:Int):=Int.lt_irrefl _
   have HF:Hid (bO U w.heap.size (.slice q9 F.length c9) (dN F R (bp R (au R F) ⟨s,ro⟩))∧w.grownBy U none):=⟨by rw[←DnU.end HT.out.1 HT.out.2.1 HT.out.2.2.1.symm (a:=⟨s,ro⟩) (by have h9:=HX.out.1;rw[←Hz.out.2.2] at h9;rw[HL.out.1] at h9;exact h9)];exact aY HX.out.2.1 (by rw[←Hn0.out];exact Nat.le_of_lt HX.out.2.2.2.2.2),HX.out.2.2.2.2.1⟩
   clear hk hk' HX
   go_wp2_with fail
   go_ret
   exact⟨_,rfl,HF.out.1,HF.out.2⟩
theorem jX {R:List Rw} {s:Sd} {d:Se} (h:dD R s=some d):d.s=s∧d.ro<R.length∧(R.getD d.ro Rw.none).nu=s.th:=by
 unfold dD at h
 cases q:gD R s.th with
 | none=>rw[q] at h;cases h
 | some i =>
  rw[q] at h
  simp only at h
  split at h
  ·cases h
   unfold gD at q
   rw[List.findIdx?_eq_some_iff_getElem] at q
   obtain⟨h1,h2,-⟩:=q
   refine⟨rfl,h1,?_⟩
   rw[aw h1]
   simpa using h2
  ·cases h
theorem Fp {n:Int} {cd:Int→Hd×List Pt} {ts:List Th} {fs:List Fe} {R:List Rw} (h:Tab n cd ts fs R) (F G:List Fe) (a:Se):eB R (bg R F a)=eB R (bg R G a)↔bg R F a=bg R G a:=by
 refine⟨fun e=>?_,fun e=>by rw[e]⟩
 have key:∀ i,i<R.length→fp R F a i=fp R G a i:=fun i hi=>by
  have one:∀ A B:List Fe,eB R (bg R A a)=eB R (bg R B a)→fp R A a i=true→fp R B a i=true:=fun A B e hb=>by
   have hm:(R.getD i Rw.none).nu∈eB R (bg R B a):=by rw[←e];exact iV.2 ⟨i,hi,hb,rfl⟩
   obtain⟨k,hk,hb',e'⟩:=iV.1 hm
   have:=kI h.nod hk hi e'
   subst this
   exact hb'
  rw[Bool.eq_iff_iff]
  exact⟨one F G e,one G F e.symm⟩
 unfold bg ku
 refine List.map_congr_left fun i hi=>key i (List.mem_range.1 hi)
theorem xO {a b:List Int} {k:Nat} (ha:k<a.length) (hb:k<b.length) (h:a.take k=b.take k) (e:a.getD k 0=b.getD k 0):a.take (k+1)=b.take (k+1):=by
 rw[List.take_add_one,List.take_add_one,h,List.getElem?_eq_getElem ha,List.getElem?_eq_getElem hb,←aw (d:=(0:Int)) ha,←aw (d:=(0:Int)) hb,e]
def pfx (a b:List Int) (k:Nat):Prop:=a.take k=b.take k
theorem DC {a b:List Int} (h:pfx a b a.length) (hl:a.length=b.length):a=b:=by
 unfold pfx at h
 rwa [List.take_length,hl,List.take_length] at h
theorem yT (b1 b2:Nat) (v1 v2:Value) (a b:List Int) (w:World) (A:aU w b1 v1 a) (B:aU w b2 v2 b) (hl:a.length≤16):Calls Tryz.prog 236 #[v1,v2] w fun e w'=>e=.returned (.bool (decide (a=b)))∧w.grownBy w' none:=by
 obtain⟨p1,c1,rfl⟩:=aU.form A
 obtain⟨p2,c2,rfl⟩:=aU.form B
 have HA:Hid (aU w b1 (.slice p1 a.length c1) a∧aU w b2 (.slice p2 b.length c2) b∧a.length≤16):=⟨A,B,hl⟩
 clear A B hl
 go_enter Tryz.func236,Tryz.ntmps236
 by_cases hlen:a.length=b.length
 ·have en:((a.length:Int) != (b.length:Int))=false:=by rw[hlen];simp
  have HLn:Hid (a.length=b.length):=hlen
  clear hlen
  go_wp2_with fail
  go_loopw [5] (fun y wr=>∃ k:Nat,k≤a.length∧y=.int .i64 (k:Int)∧Hid (pfx a b k∧aU wr b1 (.slice p1 a.length c1) a∧aU wr b2 (.slice p2 b.length c2) b∧w.grownBy wr none)) (fun y _=>a.length - (intOf y).toNat)
  case atStart=>exact⟨0,Nat.zero_le _,rfl,rfl,HA.out.1,HA.out.2.1,aq _ _⟩
  case round =>
   obtain⟨k,hk',rfl,HX⟩:=hrel
   obtain⟨U,hU⟩:∃ U,U=wr:=⟨_,rfl⟩
   subst hU
   by_cases hk:k<a.length
   ·have k1:(k:Int)<(a.length:Int):=Int.ofNat_lt.2 hk
    have k2:(k:Int)<(b.length:Int):=by rw[←HLn.out];exact k1
    have hwk:=aK (k:=k) (Nat.le_trans (Nat.le_of_lt hk) (Nat.le_trans HA.out.2.2 (by decide)))
    have HM:Hid (a.length - (intOf (.int .i64 ((k:Int)+1))).toNat<a.length - (intOf (.int .i64 (k:Int))).toNat):=bF hk
    have hkb:k<b.length:=by rw[←HLn.out];exact hk
    obtain⟨ga,ea,ca⟩:=j7 HX.out.2.1 hk
    subst ea
    obtain⟨gb,eb,cb⟩:=j7 HX.out.2.2.1 hkb
    subst eb
    obtain⟨x,hx⟩:∃ x,x=a.getD k 0:=⟨_,rfl⟩
    obtain⟨y,hy⟩:∃ y,y=b.getD k 0:=⟨_,rfl⟩
    have Hk:Hid (k<a.length∧k<b.length∧x=a.getD k 0∧y=b.getD k 0):=⟨hk,hkb,hx,hy⟩
    rw[←hx] at ca
    rw[←hy] at cb
    clear hk hk' hkb hx hy
    by_cases hxy:x=y
    ·have e1:(x != y)=false:=by rw[hxy];simp
     have HN:Hid (pfx a b (k+1)):=xO Hk.out.1 Hk.out.2.1 HX.out.1 (by rw[←Hk.out.2.2.1,←Hk.out.2.2.2,hxy])
     clear hxy
     go_upto_region 6 with fail
     go_quiet (fail)
     go_wp2_with fail
     go_roundw
     case rel=>exact⟨k+1,Hk.out.1,by first | rfl | (rw[hwk];rfl) | go_num,HN.out,HX.out.2.1,HX.out.2.2.1,aa HX.out.2.2.2 (ax _ _ _)⟩
     case measure=>first | exact HM.out | (rw[hwk];exact HM.out)
    ·have e1:(x != y)=true:=by simpa using hxy
     have HN:Hid (decide (a=b)=false):=decide_eq_false fun e=>by
      apply hxy
      rw[Hk.out.2.2.1,Hk.out.2.2.2,e]
     clear hxy
     go_upto_region 6 with fail
     go_quiet (fail)
     go_wp2_with fail
     go_ret
     exact⟨by rw[HN.out] <;> rfl,aa HX.out.2.2.2 (ax _ _ _)⟩
   ·obtain rfl:k=a.length:=Nat.le_antisymm hk' (Nat.le_of_not_lt hk)
    have k1:¬(a.length:Int)<(a.length:Int):=Int.lt_irrefl _
    have HN:Hid (decide (a=b)=true):=decide_eq_true (DC HX.out.1 HLn.out)
    clear hk hk'
    go_wp2_with fail
    go_ret
    exact⟨by rw[HN.out] <;> rfl,HX.out.2.2.2⟩
 ·have en:((a.length:Int) != (b.length:Int))=true:=by simpa using fun e:(a.length:Int)=(b.length:Int)=>hlen (by omega)
  have HN:Hid (decide (a=b)=false):=decide_eq_false fun e=>hlen (by rw[e])
  clear hlen
  go_wp2_with fail
  go_ret
  exact⟨by rw[HN.out] <;> rfl,aq _ _⟩
theorem Tab.turned {n:Int} {cd:Int→Hd×List Pt} {ts:List Th} {F:List Fe} {R:List Rw} (h:Tab n cd ts F R) {e:Se} (he:e.ro<R.length):Tab n cd ts (dN F R (bp R (au R F) e)) R∧au R (dN F R (bp R (au R F) e))=bp R (au R F) e:=by
 have hl:(bp R (au R F) e).length=R.length:=by unfold bp;rw[List.length_map,List.length_range,ei]
 exact⟨h.back hl (lJ (by rw[ei];exact he) h.good),h.pick hl⟩
theorem jN (ok:Nat→Prop) (r:Nat) (v:Value) (p:Pl) (gs:List Ent) (vt vf:Value) (ts:List Th) (F:List Fe) (R:List Rw) (s:Sd) (ro:Nat) (x:Sd) (rx:Nat) (w:World) (B:RD ok w r v p gs) (A:thR.At w vt ts) (AF:feR.At w vf F) (hT:Tab (gs.length:Int) (atC p gs) ts F R) (hr:ro<R.length) (hs:(R.getD ro Rw.none).nu=s.th) (hrx:rx<R.length) (hx:(R.getD rx Rw.none).nu=x.th) (hl:ts.length≤2048):Calls Tryz.prog 166 #[.pointer (some ⟨r,0,none⟩),vt,vf,sdv s,sdv x] w fun e w'=>e=.returned (.bool (rh R (au R F) ⟨s,ro⟩ ⟨x,rx⟩))∧w.grownBy w' none:=by
 obtain⟨pt,ct,rfl⟩:=A.form
 obtain⟨pf,cf,rfl⟩:=AF.form
 obtain⟨V,hV⟩:∃ V,V=(w.alloc (.cells #[.int .i64 s.th,.int .i64 s.pl,.int .u8 s.wh.wn,.int .u8 s.wh.vb,.int .u8 s.wh.wm,.int .i64 s.wh.ct,.int .u8 s.wh.su,.int .u8 s.wh.tr,.int .u8 s.wh.mr,.string s.wh.nm] 40)).alloc (.cells #[.int .i64 x.th,.int .i64 x.pl,.int .u8 x.wh.wn,.int .u8 x.wh.vb,.int .u8 x.wh.wm,.int .i64 x.wh.ct,.int .u8 x.wh.su,.int .u8 x.wh.tr,.int .u8 x.wh.mr,.string x.wh.nm] 40):=⟨_,rfl⟩
 have HV:Hid (SdB V w.heap.size s∧SdB V (w.heap.size+1) x∧w.grownBy V none∧RD ok V r v p gs∧thR.At V (.slice pt ts.length ct) ts∧feR.At V (.slice pf F.length cf) F):=by
  have gr:w.grownBy V none:=by rw[hV];exact ak (World.grownBy_alloc _ _ none) _
  exact⟨by rw[hV];exact ae (World.grownBy_alloc _ _ none) (ai w _ _) (by simp),by rw[hV];exact aP _ _ _ _,gr,B.keep gr,A.keep gr,AF.keep gr⟩
 have HT:Hid (Tab (gs.length:Int) (atC p gs) ts F R∧ro<R.length∧(R.getD ro Rw.none).nu=s.th∧rx<R.length∧(R.getD rx Rw.none).nu=x.th∧ts.length≤2048):=⟨hT,hr,hs,hrx,hx,hl⟩
 have C1:=jn ok r v p gs _ _ ts F R s ro V.drew (HV.out.2.2.2.1.keep (ag _)) (HV.out.2.2.2.2.1.keep (ag _)) (HV.out.2.2.2.2.2.keep (ag _)) hT hr hs hl
 have C2:Hid (∀ W,V.grownBy W none→Calls Tryz.prog 102 #[.pointer (some ⟨r,0,none⟩),.slice pt ts.length ct,.slice pf F.length cf,.agg #[.int .i64 x.th,.int .i64 x.pl,.int .u8 x.wh.wn,.int .u8 x.wh.vb,.int .u8 x.wh.wm,.int .i64 x.wh.ct,.int .u8 x.wh.su,.int .u8 x.wh.tr,.int .u8 x.wh.mr,.string x.wh.nm]] W fun e w'=>∃ v,e=.returned v∧bO w' W.heap.size v (dN F R (bp R (au R F) ⟨x,rx⟩))∧W.grownBy w' none):=fun W g=>mX ok r v p gs _ _ ts F R x rx W (HV.out.2.2.2.1.keep g) (HV.out.2.2.2.2.1.keep g) (HV.out.2.2.2.2.2.keep g) hT hrx hx hl
 unfold sdv at C1
 unfold sdv
 clear B A AF hT hr hs hrx hx hl
 go_enter Tryz.func166,Tryz.ntmps166
 go_upto_region 1 with fail
 rw[←hV]
 obtain⟨n0,hn0⟩:∃ n0,n0=w.heap.size:=⟨_,rfl⟩
 have Hn0:Hid (n0=w.heap.size):=hn0
 rw[←hn0] at HV ⊢
 obtain⟨n1,hn1⟩:∃ n1,n1=n0+1:=⟨_,rfl⟩
 rw[←hn1] at HV ⊢
 clear hV hn0 hn1
 obtain⟨s0,s1,s2,s3,s4,s5,s6,s7,s8,s9⟩:=aT HV.out.1
 obtain⟨o0,o1,o2,o3,o4,o5,o6,o7,o8,o9⟩:=aT HV.out.2.1
 refine wp_region_held_drew (S:=fun w'=>V.grownBy w' none) (by kernel_rfl) (ag _) (fun hHeld=>?_)
 refine QZ 0 rfl ?_
 go_frame
 refine QZ 1 rfl ?_
 go_frame
 refine QZ 2 rfl ?_
 go_frame
 refine QT 3 rfl (by intro w0 hSw;have s0:=hSw.cell s0 (by simp);have s1:=hSw.cell s1 (by simp);have s2:=hSw.cell s2 (by simp);have s3:=hSw.cell s3 (by simp);have s4:=hSw.cell s4 (by simp);have s5:=hSw.cell s5 (by simp);have s6:=hSw.cell s6 (by simp);have s7:=hSw.cell s7 (by simp);have s8:=hSw.cell s8 (by simp);have s9:=hSw.cell s9 (by simp);go_simp;try with_reducible rfl) ?_
 go_frame
 refine QZ 5 rfl ?_
 go_frame
 refine QZ 6 rfl ?_
 go_frame
 refine QZ 7 rfl ?_
 go_frame
 refine QZ 8 rfl ?_
 go_frame
 refine QZ 9 rfl ?_
 go_frame
 refine QT 10 rfl (by intro w0 hSw;have o0:=hSw.cell o0 (by simp);have o1:=hSw.cell o1 (by simp);have o2:=hSw.cell o2 (by simp);have o3:=hSw.cell o3 (by simp);have o4:=hSw.cell o4 (by simp);have o5:=hSw.cell o5 (by simp);have o6:=hSw.cell o6 (by simp);have o7:=hSw.cell o7 (by simp);have o8:=hSw.cell o8 (by simp);have o9:=hSw.cell o9 (by simp);go_simp;try with_reducible rfl) ?_
 go_frame
 refine QT 12 rfl (by intro w0 hSw;have s0:=hSw.cell s0 (by simp);have s1:=hSw.cell s1 (by simp);have s2:=hSw.cell s2 (by simp);have s3:=hSw.cell s3 (by simp);have s4:=hSw.cell s4 (by simp);have s5:=hSw.cell s5 (by simp);have s6:=hSw.cell s6 (by simp);have s7:=hSw.cell s7 (by simp);have s8:=hSw.cell s8 (by simp);have s9:=hSw.cell s9 (by simp);go_simp;try with_reducible rfl) ?_
 go_frame
 clear s0 s1 s2 s3 s4 s5 s6 s7 s8 s9 o0 o1 o2 o3 o4 o5 o6 o7 o8 o9
 refine QR 4 rfl (fun K hK=>?_)
 go_simp
 go_at_call 172
 refine(C1).mono ?_
 rintro e2 w2 ⟨v2,rfl,a2,g2⟩
 obtain⟨p2,c2,ev⟩:=aU.form a2
 subst ev
 have H2:Hid (V.grownBy w2 none∧aU w2 V.drew.heap.size (.slice p2 (eB R (bg R (au R F) ⟨s,ro⟩)).length c2) (eB R (bg R (au R F) ⟨s,ro⟩))):=⟨aa (ag _) g2,a2⟩
 clear g2 a2 C1
 obtain⟨la,hla⟩:∃ la,la=eB R (bg R (au R F) ⟨s,ro⟩):=⟨_,rfl⟩
 have Hla:Hid (la=eB R (bg R (au R F) ⟨s,ro⟩)):=hla
 rw[←hla] at H2 ⊢
 clear hla
 refine hK.out _ _ (H2.out.1) (fun hHeld2=>?_)
 clear hK K
 (try go_frame)
 refine QR 11 rfl (fun K hK=>?_)
 go_simp
 go_at_call 102
 refine(C2.out _ H2.out.1).mono ?_
 rintro e3 w3 ⟨v3,rfl,a3,g3⟩
 obtain⟨p3,c3,ev⟩:=ay.Own.form a3
 subst ev
 have HG3:Hid (V.grownBy w3 none∧aU w3 V.drew.heap.size (.slice p2 la.length c2) la):=⟨aa H2.out.1 g3,aA H2.out.2 g3⟩
 obtain⟨tb,pk⟩:=HT.out.1.turned (e:=⟨x,rx⟩) HT.out.2.2.2.1
 have C3:=jn ok r v p gs _ _ ts _ R s ro w3 (HV.out.2.2.2.1.keep HG3.out.1) (HV.out.2.2.2.2.1.keep HG3.out.1) (ay.Own.at a3) tb HT.out.2.1 HT.out.2.2.1 HT.out.2.2.2.2.2
 rw[pk] at C3
 unfold sdv at C3
 clear g3 a3 C2 H2 tb pk
 refine hK.out _ _ (HG3.out.1) (fun hHeld2=>?_)
 clear hK K
 (try go_frame)
 refine QR 13 rfl (fun K hK=>?_)
 go_simp
 go_at_call 172
 refine(C3).mono ?_
 rintro e4 w4 ⟨v4,rfl,a4,g4⟩
 obtain⟨p4,c4,ev⟩:=aU.form a4
 subst ev
 have H4:Hid (V.grownBy w4 none):=aa HG3.out.1 g4
 have C4:=yT _ _ _ _ la _ w4 (aA HG3.out.2 g4) a4 (by rw[Hla.out];exact Nat.le_trans (mC _ _ _) HT.out.1.few)
 obtain⟨lb,hlb⟩:∃ lb,lb=eB R (bg R (bp R (au R F) ⟨x,rx⟩) ⟨s,ro⟩):=⟨_,rfl⟩
 have HD:Hid ((!decide (la=lb))=rh R (au R F) ⟨s,ro⟩ ⟨x,rx⟩):=by
  show _=_
  unfold rh
  rw[Hla.out,hlb]
  congr 1
  exact decide_eq_decide.2 (Fp HT.out.1 _ _ _)
 rw[←hlb] at C4 ⊢
 clear g4 a4 C3 HG3 hlb
 refine hK.out _ _ (H4.out) (fun hHeld2=>?_)
 clear hK K
 (try go_frame)
 refine QR 14 rfl (fun K hK=>?_)
 go_simp
 go_at_call 236
 refine(C4).mono ?_
 rintro e5 w5 ⟨rfl,g5⟩
 have H5:Hid (V.grownBy w5 none):=aa H4.out g5
 clear g5 C4 H4
 refine hK.out _ _ (H5.out) (fun hHeld2=>?_)
 clear hK K
 (try go_frame)
 refine QZ 15 rfl ?_
 go_frame
 refine QZ 16 rfl ?_
 go_frame
 refine QD ?_
 go_wp2_with fail
 go_ret
 exact⟨by rw[HD.out] <;> rfl,aa HV.out.2.2.1 H5.out⟩
def ahB (a b c d:Int):Bool:=decide (a<b) || (decide (a=b) && decide (c<d))
theorem BF (vt:Value) (ts:List Th) (s x:Sd) (z y:Nat) (t u:Th) (w:World) (A:thR.At w vt ts) (hz:s.th=(z:Int)+1) (ht:ts[z]?=some t) (hy:x.th=(y:Int)+1) (hu:ts[y]?=some u) (hl:ts.length≤2048):Calls Tryz.prog 165 #[vt,sdv s,sdv x] w fun e w'=>e=.returned (.bool (ahB t.stamp u.stamp s.pl x.pl))∧w.grownBy w' none:=by
 obtain⟨pt,ct,rfl⟩:=A.form
 obtain⟨V,hV⟩:∃ V,V=(w.alloc (.cells #[.int .i64 s.th,.int .i64 s.pl,.int .u8 s.wh.wn,.int .u8 s.wh.vb,.int .u8 s.wh.wm,.int .i64 s.wh.ct,.int .u8 s.wh.su,.int .u8 s.wh.tr,.int .u8 s.wh.mr,.string s.wh.nm] 40)).alloc (.cells #[.int .i64 x.th,.int .i64 x.pl,.int .u8 x.wh.wn,.int .u8 x.wh.vb,.int .u8 x.wh.wm,.int .i64 x.wh.ct,.int .u8 x.wh.su,.int .u8 x.wh.tr,.int .u8 x.wh.mr,.string x.wh.nm] 40):=⟨_,rfl⟩
 have HV:Hid (SdB V w.heap.size s∧SdB V (w.heap.size+1) x∧w.grownBy V none∧thR.At V (.slice pt ts.length ct) ts):=by
  have gr:w.grownBy V none:=by rw[hV];exact ak (World.grownBy_alloc _ _ none) _
  exact⟨by rw[hV];exact ae (World.grownBy_alloc _ _ none) (ai w _ _) (by simp),by rw[hV];exact aP _ _ _ _,gr,A.keep gr⟩
 have hzl:z<ts.length:=(List.getElem?_eq_some_iff.1 ht).1
 have hyl:y<ts.length:=(List.getElem?_eq_some_iff.1 hu).1
 obtain⟨wz,wz2,z1⟩:=wrS hzl hl
 obtain⟨wy,wy2,y1⟩:=wrS hyl hl
 obtain⟨gT,oT,cT,eT,-⟩:=bG HV.out.2.2.2 hzl
 injection eT with eT eT2 eT3
 clear eT2 eT3
 subst eT
 obtain⟨-,-,-,t3,-⟩:=bc (j8 HV.out.2.2.2 ht)
 obtain⟨-,-,-,u3,-⟩:=bc (j8 HV.out.2.2.2 hu)
 obtain⟨a,ha⟩:∃ a,a=t.stamp:=⟨_,rfl⟩
 obtain⟨b,hb⟩:∃ b,b=u.stamp:=⟨_,rfl⟩
 rw[←ha] at t3 ⊢
 rw[←hb] at u3 ⊢
 clear ha hb
 have Hz:Hid (s.th=(z:Int)+1∧x.th=(y:Int)+1):=⟨hz,hy⟩
 unfold sdv
 clear A hl ht hu hzl hyl hz hy
 go_enter Tryz.func165,Tryz.ntmps165
 go_upto_region 1 with fail
 rw[←hV]
 obtain⟨n0,hn0⟩:∃ n0,n0=w.heap.size:=⟨_,rfl⟩
 rw[←hn0] at HV ⊢
 obtain⟨n1,hn1⟩:∃ n1,n1=n0+1:=⟨_,rfl⟩
 rw[←hn1] at HV ⊢
 clear hV hn0 hn1
 obtain⟨s0,s1,-,-,-,-,-,-,-,-⟩:=aT HV.out.1
 obtain⟨o0,o1,-,-,-,-,-,-,-,-⟩:=aT HV.out.2.1
 rw[Hz.out.1] at s0
 rw[Hz.out.2] at o0
 have HG:Hid (w.grownBy V none):=HV.out.2.2.1
 clear HV Hz
 by_cases h1:a<b
 ·have d1:decide (a<b)=true:=decide_eq_true h1
  have HN:Hid (ahB a b s.pl x.pl=true):=by show _=_;unfold ahB;rw[d1];rfl
  clear h1
  go_wp2_with fail
  go_ret
  exact⟨by rw[HN.out] <;> rfl,HG.out⟩
 ·have d1:decide (a<b)=false:=decide_eq_false h1
  by_cases h2:a=b
  ·have d2:(a == b)=true:=by rw[h2];exact beq_self_eq_true _
   by_cases h3:s.pl<x.pl
   ·have d3:decide (s.pl<x.pl)=true:=decide_eq_true h3
    have HN:Hid (ahB a b s.pl x.pl=true):=by show _=_;unfold ahB;rw[d1,d3,decide_eq_true h2];rfl
    clear h1 h2 h3
    go_wp2_with fail
    go_ret
    exact⟨by rw[HN.out] <;> rfl,HG.out⟩
   ·have d3:decide (s.pl<x.pl)=false:=decide_eq_false h3
    have HN:Hid (ahB a b s.pl x.pl=false):=by show _=_;unfold ahB;rw[d1,d3];simp
    clear h1 h2 h3
    go_wp2_with fail
    go_ret
    exact⟨by rw[HN.out] <;> rfl,HG.out⟩
  ·have d2:(a == b)=false:=by simpa using h2
   have HN:Hid (ahB a b s.pl x.pl=false):=by show _=_;unfold ahB;rw[d1,decide_eq_false h2];rfl
   clear h1 h2
   go_wp2_with fail
   go_ret
   exact⟨by rw[HN.out] <;> rfl,HG.out⟩
theorem nt:∀ (n:Nat) (l:List Nat),l.Nodup→(∀ x∈l,x<n)→l.length≤n
 | 0,[],_,_=>Nat.le_refl _
 | 0,x :: _,_,h=>absurd (h x (List.mem_cons_self ..)) (Nat.not_lt_zero _)
 | n+1,l,hn,h=>by
  by_cases hm:n∈l
  ·have ih:=nt n (l.erase n) (hn.erase n) fun x hx=>by
    have h1:=h x (List.mem_of_mem_erase hx)
    have h2:x≠n:=fun e=>by subst e;exact(List.Nodup.mem_erase_iff hn).1 hx |>.1 rfl
    omega
   rw[List.length_erase_of_mem hm] at ih
   omega
  ·exact Nat.le_succ_of_le (nt n l hn fun x hx=>by
    have h1:=h x hx
    have h2:x≠n:=fun e=>hm (by rw[←e];exact hx)
    omega)
theorem yL {e:Se} {L:List Se} (h:dS e L=true) {o:Se} (ho:o∈L):dF e o=false:=by
 unfold dS at h
 rw[List.all_eq_true] at h
 have:=h o ho
 simpa using this
theorem iv {R:List Rw}:∀ (S:List Sd) (acc L:List Se),(acc.Pairwise fun a b=>dF b a=false)→(∀ e∈acc,dD R e.s=some e)→bL R S acc=some L→(L.Pairwise fun a b=>dF b a=false)∧∀ e∈L,dD R e.s=some e
 | [],acc,L,h1,h2,h=>by
  have:acc=L:=by simpa [bL] using h
  subst this
  exact⟨h1,h2⟩
 | s :: S,acc,L,h1,h2,h=>by
  unfold bL at h
  cases q:dD R s with
  | none=>rw[q] at h;cases h
  | some e =>
   rw[q] at h
   simp only at h
   by_cases hj:dS e acc=true
   ·rw[if_pos hj] at h
    refine iv S _ L ?_ ?_ h
    ·rw[List.pairwise_append]
     refine⟨h1,List.pairwise_singleton _ _,fun a ha b hb=>?_⟩
     rw[List.mem_singleton] at hb
     subst hb
     exact yL hj ha
    ·intro x hx
     rw[List.mem_append,List.mem_singleton] at hx
     rcases hx with hx | rfl
     ·exact h2 x hx
     ·rw[(jX q).1];exact q
   ·rw[if_neg hj] at h;cases h
theorem Du {R:List Rw} {s:Sd} {d:Se} (h:dD R s=some d):0≤s.pl∧s.pl<((R.getD d.ro Rw.none).ps.length:Int):=by
 unfold dD at h
 cases q:gD R s.th with
 | none=>rw[q] at h;cases h
 | some i =>
  rw[q] at h
  simp only at h
  split at h
  ·rename_i hh
   cases h
   unfold dW at hh
   simp only[Bool.and_eq_true,decide_eq_true_eq] at hh
   exact⟨hh.1.1,hh.1.2⟩
  ·cases h
theorem Tab.ps4 {n:Int} {cd:Int→Hd×List Pt} {ts:List Th} {fs:List Fe} {R:List Rw} (h:Tab n cd ts fs R) (hc:∀ c,(cd c).2.length≤4) (i:Nat):(R.getD i Rw.none).ps.length≤4:=by
 by_cases hi:i<R.length
 ·rw[aw hi]
  obtain⟨j,t,f,_,_,c⟩:=iJ _ _ _ (h.perm.mem_iff.1 (List.getElem_mem hi))
  rw[c]
  exact hc _
 ·rw[List.getD_eq_getElem?_getD,List.getElem?_eq_none (by omega)]
  exact Nat.zero_le _
theorem Tab.list64 {n:Int} {cd:Int→Hd×List Pt} {ts:List Th} {fs:List Fe} {R:List Rw} (h:Tab n cd ts fs R) (hc:∀ c,(cd c).2.length≤4) {S:List Sd} {L:List Se} (q:bL R S []=some L):S.length≤64:=by
 have hlen:=ox S [] L q
 obtain⟨hp,hf⟩:=iv S [] L List.Pairwise.nil (fun e he=>absurd he (by simp)) q
 have h4:∀ e∈L,e.ro<16∧0≤e.s.pl∧e.s.pl<4∧(R.getD e.ro Rw.none).nu=e.s.th:=fun e he=>by
  have a:=jX (hf e he)
  have b:=Du (hf e he)
  have c:=h.ps4 hc e.ro
  have d:=h.few
  exact⟨by omega,b.1,by omega,a.2.2⟩
 have hnod:(L.map fun e=>e.ro*4+e.s.pl.toNat).Nodup:=by
  show List.Pairwise _ _
  rw[List.pairwise_map]
  refine List.Pairwise.imp_of_mem ?_ hp
  intro a b ha hb hcl e
  obtain⟨a1,a2,a3,a4⟩:=h4 a ha
  obtain⟨b1,b2,b3,b4⟩:=h4 b hb
  have e1:a.ro=b.ro:=by omega
  have e2:b.s.pl=a.s.pl:=by omega
  have e3:b.s.th=a.s.th:=by rw[←a4,←b4,e1]
  rw[kN e3 e2] at hcl
  cases hcl
 have:=nt 64 _ hnod fun x hx=>by
  obtain⟨e,he,rfl⟩:=List.mem_map.1 hx
  obtain⟨a1,a2,a3,-⟩:=h4 e he
  show e.ro*4+e.s.pl.toNat<64
  omega
 rw[List.length_map] at this
 simp only[List.length_nil] at hlen
 omega
theorem dm {w:World} {g off n c:Nat} {X:List Sd} (h:sdR.At w (.slice (some ⟨g,off,none⟩) n c) X) {i:Nat} {x:Sd} (hx:X[i]?=some x):w.rangeAt g (off+i*10) (sdc x):=by
 obtain⟨hi,e⟩:=List.getElem?_eq_some_iff.1 hx
 obtain⟨g',off',cap,e1,r⟩:=dU h hi
 injection e1 with e1 _ _
 injection e1 with e1
 injection e1 with ea eb
 rw[ea,eb,←e]
 exact r

theorem RD.four {ok:Nat→Prop} {w:World} {r:Nat} {v:Value} {p:Pl} {gs:List Ent} (B:RD ok w r v p gs) (c:Int):(atC p gs c).2.length≤4:=by
 unfold atC
 split
 ·split
  ·rename_i e he
   exact B.par e (List.mem_of_getElem? he)
  ·exact Nat.zero_le _
 ·exact Nat.zero_le _
end Go.Proofs.YthfjgpjcepmnmaaGreat
