import Derived.Test.YtjmepebbcnhalaaGreatV37
import Derived.Test.YtjmepebbcnhalaaGreatV35
import Derived.Test.YtjmepebbcnhalaaGreatRyE
namespace Go.Proofs.YtjmepebbcnhalaaGreat
open Go.RowKit Go.Shelf
variable {n k ho r:Int} {cd:Int→Hd×List Pt} {ts:List Th} {fs F X:List Fe} {R:List Rw} {w w':World} {L:List Se} {i base g c:Nat} {v:Value} {wh:Pt} {f:Fe} {S:List Sd} {s:Sd}
theorem Tab.app {a:Se} {e:Ending} (h:Tab n cd ts fs R) (ha:a∈cx R F k) (q:ju w 0 n cd ts fs a.s e w'):∃ p c,e=.returned (.tuple #[.slice p (bu fs R (aG R (aq R fs) a)).length c,.int .i64 0])∧w.grownBy w' none∧aQ w' w.heap.size (.slice p (bu fs R (aG R (aq R fs) a)).length c) (bu fs R (aG R (aq R fs) a)):=by
 obtain⟨p,m,c,e1,g,_,h1⟩:=q
 have o:=h1 R a rfl h.tab (h.one ha)
 rw[gN h.tab (h.one ha)] at e1
 obtain⟨p',c',e2⟩:=az.Own.form o
 cases e2
 exact⟨p,c,e1,g,o⟩
theorem Tab.abt {a:Se} {e:Ending} (h:Tab n cd ts fs R) (ha:a∈cx R F k) (q:jc w 0 n cd ts fs a.s e w'):∃ p c,e=.returned (.tuple #[.slice p (cJ R (aH R (aq R fs) a)).length c,.int .i64 0])∧w.grownBy w' none∧aV w' w.heap.size (.slice p (cJ R (aH R (aq R fs) a)).length c) (cJ R (aH R (aq R fs) a)):=by
 obtain⟨p,m,c,e1,g,_,h1⟩:=q
 have o:=h1 R a rfl h.tab (h.one ha)
 rw[gN h.tab (h.one ha)] at e1
 obtain⟨p',c',e2⟩:=aV.form o
 cases e2
 exact⟨p,c,e1,g,o⟩
theorem BJ (h:i<L.length):(L.map Se.s)[i]'(by simpa using h)=(L.getD i Se.none).s:=by rw[List.getElem_map,aB h]
theorem kN (h:sdR.At w v (L.map Se.s)) {i:Nat} (hi:i<L.length):∃ g off cap,v=.slice (some ⟨g,off,none⟩) L.length cap∧w.rangeAt g (off+i*10) (sdc (L.getD i Se.none).s):=by
 obtain⟨g,off,cap,e,q⟩:=gP h (i:=i) (by simpa using hi)
 rw[BJ hi] at q
 exact⟨g,off,cap,by rw[e,List.length_map],q⟩
theorem FiA.forms {vc vm:Value} {cs:List Ent} {ms:List Mk} (h:FiA w vc vm cs ms):∃ a k a' k',vc=.slice a cs.length k∧vm=.slice a' ms.length k':=by
 obtain⟨a,k,e,_⟩:=h.c
 obtain⟨a',k',e',_⟩:=h.m
 exact⟨a,k,a',k',e,e'⟩
theorem Tab.effs (h:Tab n cd ts fs R) (hc:∀ c,(cd c).2.length≤4) (F:List Fe) (k:Int):(cx R F k).length≤64:=by
 have hp:∀ i,(R.getD i Rw.none).ps.length≤4:=fun i=>by
  by_cases hi:i<R.length
  ·rw[aB hi]
   obtain⟨j,t,f,_,_,c⟩:=iN _ _ _ (h.perm.mem_iff.1 (List.getElem_mem hi))
   rw[c]
   exact hc _
  ·rw[List.getD_eq_getElem?_getD,List.getElem?_eq_none (by omega)]
   exact Q0 _
 have:=iM (F:=F) (k:=k) hp R.length
 have:=h.few
 unfold cx
 omega
set_option maxRecDepth 100000
set_option maxHeartbeats 4000000
theorem Tab.becomes2 {a:Se} (h:Tab n cd ts fs R) (hro:a.ro<R.length) (hth:a.s.th=(R.getD a.ro Rw.none).nu) (j:Nat):(bu fs R (aG R (aq R fs) a)).getD j Fe.none=if ((j:Int)+1)∈cJ R (aH R (aq R fs) a) then fD (fs.getD j Fe.none) a.s.wh (fs.getD (a.s.th - 1).toNat Fe.none).ho else fs.getD j Fe.none:=by
 have q:=gI (fs:=fs) (F:=aG R (aq R fs) a) h.nod h.nu R.length (Qj _)
 have pk:∀ i,i<R.length→(aq R fs).getD i Fe.none=fs.getD ((R.getD i Rw.none).nu - 1).toNat Fe.none:=fun i hi=>by
  rw[aB (by rw[eu];exact hi)]
  unfold aq
  rw[List.getElem_map,←aB (d:=Rw.none) hi]
 by_cases z:∃ i,i<R.length∧(R.getD i Rw.none).nu=(j:Int)+1
 ·obtain⟨i,hi,e⟩:=z
  have e1:=q.1 i hi
  rw[e,show ((j:Int)+1 - 1).toNat=j by omega,yS (by rw[eu];exact hi)] at e1
  have e2:(bu fs R (aG R (aq R fs) a)).getD j Fe.none=fp R (aq R fs) a i:=by
   rw[List.getD_eq_getElem?_getD]
   unfold bu
   rw[e1]
   rfl
  rw[e2]
  unfold fp
  rw[pk i hi,e,show ((j:Int)+1 - 1).toNat=j by omega,pk a.ro hro,←hth]
  by_cases hb:dq R (aq R fs) a i=true
  ·rw[if_pos hb,if_pos (jd.2 ⟨i,hi,hb,e⟩)]
  ·rw[if_neg hb,if_neg]
   intro hm
   obtain⟨i',hi',hb',e'⟩:=jd.1 hm
   have:=jM h.nod hi hi' (by rw[e,e'])
   subst this
   exact hb hb'
 ·have hz:∀ i,i<R.length→(R.getD i Rw.none).nu≠(j:Int)+1:=fun i hi e=>z ⟨i,hi,e⟩
  have e1:=q.2 j hz
  rw[if_neg (fun hm=>by obtain⟨i',hi',_,e'⟩:=jd.1 hm;exact hz i' hi' e'),List.getD_eq_getElem?_getD,List.getD_eq_getElem?_getD]
  unfold bu
  rw[e1]
theorem ze (h:Tab n cd ts fs R) (F:List Fe) (a:Se):(cJ R (aH R F a)).Nodup:=(h.rise F a).imp (fun {x y} q e=>by subst e;exact Int.lt_irrefl _ q)
structure DnU (F:List Fe) (l:List Int) (wh:Pt) (ho:Int) (k:Nat) (X:List Fe):Prop where
 len:X.length=F.length
 is:∀ j:Nat,j<F.length→X.getD j Fe.none=if ((j:Int)+1)∈l.take k then fD (F.getD j Fe.none) wh ho else F.getD j Fe.none
theorem DnU.start (F:List Fe) (l:List Int) (wh:Pt) (ho:Int):DnU F l wh ho 0 F:=⟨rfl,fun j _=>by rw[if_neg (by simp)]⟩
theorem DnU.old {l:List Int} {k u:Nat} (h:DnU F l wh ho k X) (hn:l.Nodup) (hk:l[k]?=some ((u:Int)+1)) (hu:u<F.length):X.getD u Fe.none=F.getD u Fe.none:=by
 rw[h.is u hu,if_neg]
 intro hm
 obtain⟨i,hi,e⟩:=List.getElem_of_mem hm
 have hi2:i<k:=by rw[List.length_take] at hi;omega
 have e2:l[i]?=some ((u:Int)+1):=by
  rw[←e]
  rw[List.getElem_take]
  exact Qg _
 obtain⟨h1,e3⟩:=Qh hk
 obtain⟨h2,e4⟩:=Qh e2
 have:=(List.getElem_inj (h₀:=h2) (h₁:=h1) hn).1 (e4.trans e3.symm)
 omega
theorem DnU.step {l:List Int} {k u:Nat} (h:DnU F l wh ho k X) (hn:l.Nodup) (hk:l[k]?=some ((u:Int)+1)) (hu:u<F.length) (hf:X.getD u Fe.none=f):DnU F l wh ho (k+1) (X.set u (fD f wh ho)):=by
 have hold:=h.old hn hk hu
 refine⟨by rw[List.length_set];exact h.len,fun j hj=>?_⟩
 have ht:l.take (k+1)=l.take k++[(u:Int)+1]:=by rw[List.take_add_one,hk];rfl
 by_cases e:j=u
 ·subst e
  rw[if_pos (by rw[ht];simp),List.getD_eq_getElem?_getD,List.getElem?_set_self (by rw[h.len];exact hj),←hf,hold]
  rfl
 ·rw[List.getD_eq_getElem?_getD,List.getElem?_set_ne (by omega),←List.getD_eq_getElem?_getD,h.is j hj,ht]
  have:(((j:Int)+1)∈l.take k++[(u:Int)+1])↔(((j:Int)+1)∈l.take k):=by
   rw[List.mem_append,List.mem_singleton]
   exact⟨fun z=>z.elim id (fun y=>by omega),Or.inl⟩
  simp only[this]
theorem DnU.end {a:Se} (hT:Tab n cd ts F R) (hro:a.ro<R.length) (hth:a.s.th=(R.getD a.ro Rw.none).nu) (h:DnU F (cJ R (aH R (aq R F) a)) a.s.wh (F.getD (a.s.th - 1).toNat Fe.none).ho (cJ R (aH R (aq R F) a)).length X):X=bu F R (aG R (aq R F) a):=by
 have hl:(bu F R (aG R (aq R F) a)).length=F.length:=fY _ _ _
 refine List.ext_getElem (by rw[h.len,hl]) fun j h1 h2=>?_
 have hj:j<F.length:=by rw[←h.len];exact h1
 rw[←aB (d:=Fe.none) h1,←aB (d:=Fe.none) h2,hT.becomes2 hro hth j,h.is j hj,List.take_length]
theorem wrS {j n:Nat} (h:j<n) (hn:n≤2048):wrap64 (j:Int)=(j:Int)∧IntKind.i64.wrap (j:Int)=(j:Int)∧(j:Int)<(n:Int):=⟨by unfold wrap64;omega,by rw[IntWalk.i64_in _ (by omega)],by omega⟩
theorem DS (h:Tab n cd ts fs R) {F:List Fe} {a:Se} {l:List Int} (hl:l=cJ R (aH R F a)) {k:Nat} (hk:k<l.length):∃ u:Nat,l.getD k 0=(u:Int)+1∧u<fs.length∧l[k]?=some ((u:Int)+1):=by
 have h1:=h.num (x:=l.getD k 0) (F:=F) (a:=a) (by rw[←hl,aB hk];exact List.getElem_mem _)
 refine⟨(l.getD k 0 - 1).toNat,by have:=h1.1;omega,by have:=h1.1;have:=h1.2.1;omega,?_⟩
 rw[Qg hk,←aB (d:=(0:Int)) hk]
 have:=h1.1
 congr 1
 omega
theorem AU {n:Nat} {l:List Fe} (O:aQ w base (.slice (some ⟨g,0,none⟩) n c) l) (j:Nat):w.frozen? ⟨g,j,none⟩=false:=by
 obtain⟨p,q,e⟩:=az.Own.form O
 cases e
 exact World.ownsRow.frozenAt O j
theorem wT {n:Nat} (h:aQ w base (.slice (some ⟨g,0,none⟩) n c) X) {i:Nat} {x:Fe} (hx:X[i]?=some x):w.rangeAt g (i*5) (fec x):=by
 have h2:=kT (n:=n) (c:=c) (az.Own.at h) hx
 rw[Nat.zero_add] at h2
 exact h2
theorem jO (ok:Nat→Prop) (r:Nat) (v:Value) (p:Pl) (gs:List Ent) (vt vf:Value) (ts:List Th) (F:List Fe) (R:List Rw) (s:Sd) (ro:Nat) (w:World) (B:RD ok w r v p gs) (A:thR.At w vt ts) (AF:feR.At w vf F) (hT:Tab (gs.length:Int) (atC p gs) ts F R) (hr:ro<R.length) (hs:(R.getD ro Rw.none).nu=s.th) (hl:ts.length≤2048):Calls Tryz.prog 72 #[.pointer (some ⟨r,0,none⟩),vt,vf,sdv s] w fun e w'=>∃ v,e=.returned v∧aQ w' w.heap.size v (bu F R (aG R (aq R F) ⟨s,ro⟩))∧w.grownBy w' none:=by
 obtain⟨iF,hiF,hF0,hF1,hF2⟩:=info_parts Tryz.linfoF
 obtain⟨pt,ct,rfl⟩:=A.form
 obtain⟨pf,cf,rfl⟩:=AF.form
 obtain⟨V,hV⟩:=Qe (w.alloc (.cells #[.int .i64 s.th,.int .i64 s.pl,.int .u8 s.wh.wn,.int .u8 s.wh.vb,.int .u8 s.wh.wm,.int .i64 s.wh.ct,.int .u8 s.wh.su,.int .u8 s.wh.tr,.int .u8 s.wh.mr,.string s.wh.nm] 64))
 have HV:Hid (SdB V w.heap.size s∧w.grownBy V none∧RD ok V r v p gs∧thR.At V (.slice pt ts.length ct) ts∧feR.At V (.slice pf F.length cf) F):=by
  have gr:w.grownBy V none:=by rw[hV];exact QG
  exact⟨by rw[hV];exact ak _ _ _,gr,B.keep gr,A.keep gr,AF.keep gr⟩
 have HT:Hid (Tab (gs.length:Int) (atC p gs) ts F R∧ro<R.length∧(R.getD ro Rw.none).nu=s.th∧ts.length≤2048∧F.length≤2048):=⟨hT,hr,hs,hl,by rw[←hT.len];exact hl⟩
 unfold sdv
 clear B A AF hT hr hs hl
 go_enter Tryz.func72,Tryz.ntmps72
 go_upto_region 1 with fail
 rw[←hV]
 obtain⟨n0,hn0⟩:=Qe (w.heap.size)
 have Hn0:Hid (n0=w.heap.size):=hn0
 rw[←hn0] at HV ⊢
 have HnV:Hid (n0<V.heap.size):=aZ HV.out.1
 clear hV hn0
 have HSrc:Hid (Src V (.slice pf F.length cf) F.length 5 (feR.cs F)):=az.At.src HV.out.2.2.2.2
 have HL5:Hid (0+F.length≤maxLen∧(0+F.length)*32≤140737488355328):=by have:=HT.out.2.2.2.2;exact⟨by unfold maxLen;omega,by omega⟩
 go_upto_region 3 with (at_builtin;refine bE (by rfl) (.tmp 13) (.tmp 14) 27 rfl V.heap.size 122 iF _ 5 32 Tryz.underlying27 hiF hF0 hF1 hF2 rfl (by decide) (.slice none 0 0) 0 [] rfl ⟨rfl,Or.inl ⟨rfl,rfl⟩⟩ _ F.length (feR.cs F) rfl HSrc.out (feR.ones F) HL5.out.1 HL5.out.2 (Qj _) ?_;intro v9 w9 o9 g9 _;have HO9:Hid (aQ w9 V.heap.size v9 F):=(by have h9:=o9;rw[Nat.zero_add,List.nil_append] at h9;exact h9);have HG9:Hid (V.grownBy w9 none):=g9;clear o9 g9)
 obtain⟨q9,c9,ev⟩:=az.Own.form HO9.out
 subst ev
 have CA:=ip ok r v p gs _ _ ts F R s ro w9 (HV.out.2.2.1.keep HG9.out) (HV.out.2.2.2.1.keep HG9.out) (HV.out.2.2.2.2.keep HG9.out) HT.out.1 HT.out.2.1 HT.out.2.2.1 HT.out.2.2.2.1
 unfold sdv at CA
 have HS9:Hid (SdB w9 n0 s∧w.grownBy w9 none∧feR.At w9 (.slice pf F.length cf) F):=⟨ag HG9.out HV.out.1 (by simp),ae HV.out.2.1 HG9.out,HV.out.2.2.2.2.keep HG9.out⟩
 obtain⟨s0,s1,s2,s3,s4,s5,s6,s7,s8,s9⟩:=bS HS9.out.1
 clear HSrc HL5
 go_wp2_with fail
 refine CA.mono ?_
 rintro e1 w1 ⟨v1,rfl,o1,g1⟩
 obtain⟨l,hl⟩:=Qe (cJ R (aH R (aq R F) ⟨s,ro⟩))
 have HL:Hid (l=cJ R (aH R (aq R F) ⟨s,ro⟩)∧l.Nodup∧l.length≤16):=⟨hl,by rw[hl];exact ze HT.out.1 _ _,by rw[hl];exact Ql (gW _ _ _) HT.out.1.few⟩
 rw[←hl] at o1
 obtain⟨pl,cl,ev⟩:=aV.form o1
 subst ev
 have H1:Hid (aV w1 w9.heap.size (.slice pl l.length cl) l∧w9.grownBy w1 none∧aQ w1 V.heap.size (.slice q9 F.length c9) F∧SdB w1 n0 s∧w.grownBy w1 none∧feR.At w1 (.slice pf F.length cf) F):=⟨o1,g1,aw HO9.out g1,ag g1 HS9.out.1 (by simp),ae HS9.out.2.1 g1,HS9.out.2.2.keep g1⟩
 obtain⟨z,t,hzt,-,hzn,-⟩:=HT.out.1.from (show R.getD ro Rw.none∈R by rw[aB HT.out.2.1];exact List.getElem_mem _)
 have hzl:z<F.length:=by rw[←HT.out.1.len];exact(Qh hzt).1
 have hz:s.th=(z:Int)+1:=by rw[←HT.out.2.2.1,hzn]
 obtain⟨g,hg⟩:∃ g,F[z]?=some g:=⟨_,Qg hzl⟩
 have Hz:Hid (s.th=(z:Int)+1∧F[z]?=some g∧F.getD (s.th - 1).toNat Fe.none=g):=⟨hz,hg,by rw[hz,toN,List.getD_eq_getElem?_getD,hg];rfl⟩
 clear CA o1 g1 HV HO9 HG9 HS9 s0 s1 s2 s3 s4 s5 s6 s7 s8 s9 hl hzt hzn
 obtain⟨s0,s1,s2,s3,s4,s5,s6,s7,s8,s9⟩:=bS H1.out.2.2.2.1
 rw[hz] at s0
 obtain⟨gF,oF,cF,eF,-⟩:=dA H1.out.2.2.2.2.2 hzl
 injection eF with eF eF2 eF3
 clear eF2 eF3
 subst eF
 obtain⟨g0,-⟩:=bm (kT H1.out.2.2.2.2.2 hg)
 obtain⟨wz,wz2,z1⟩:=wrS hzl HT.out.2.2.2.2
 clear hz hzl hg
 go_upto_region 5 with fail
 clear s0 s1 s2 s3 s4 s5 s6 s7 s8 s9 g0 wz wz2 z1
 go_wp2_with fail
 go_loopw [12] (fun y wr=>∃ (k:Nat) (X:List Fe),k≤l.length∧y=.int .i64 (k:Int)∧Hid (DnU F l s.wh g.ho k X∧aQ wr V.heap.size (.slice q9 F.length c9) X∧aV wr w9.heap.size (.slice pl l.length cl) l∧SdB wr n0 s∧w.grownBy wr none∧n0<V.heap.size)) (fun y _=>l.length - (intOf y).toNat)
 case atStart=>exact⟨0,F,Q0 _,rfl,DnU.start _ _ _ _,H1.out.2.2.1,H1.out.1,H1.out.2.2.2.1,H1.out.2.2.2.2.1,HnV.out⟩
 case round =>
  obtain⟨k,X,hk',rfl,HX⟩:=hrel
  obtain⟨U,hU⟩:=Qe (wr)
  subst hU
  by_cases hk:k<l.length
  ·have k1:(k:Int)<(l.length:Int):=Int.ofNat_lt.2 hk
   have hwk:=aK (k:=k) (Ql (Nat.le_of_lt hk) (Ql HL.out.2.2 (by decide)))
   have HM:Hid (l.length - (intOf (.int .i64 ((k:Int)+1))).toNat<l.length - (intOf (.int .i64 (k:Int))).toNat):=bj hk
   obtain⟨gl,ep,cl0⟩:=jp HX.out.2.2.1 hk
   subst ep
   obtain⟨u,hu,hul,hlk⟩:=DS HT.out.1 HL.out.1 hk
   rw[hu] at cl0
   have hXl:X.length=F.length:=HX.out.1.len
   obtain⟨f,hf⟩:∃ f,X[u]?=some f:=⟨_,Qg (by rw[hXl];exact hul)⟩
   obtain⟨gq,cq,eq,hqb,-⟩:=cH HX.out.2.1 (show 0<X.length by rw[hXl];exact Nat.lt_of_le_of_lt (Q0 _) hul)
   injection eq with eq eq2 eq3
   clear eq2 eq3
   subst eq
   have Hu:Hid (l[k]?=some ((u:Int)+1)∧u<F.length∧X[u]?=some f∧X.length=F.length∧k<l.length∧V.heap.size≤gq):=⟨hlk,hul,hf,hXl,hk,hqb⟩
   obtain⟨wu,wu2,u1⟩:=wrS hul HT.out.2.2.2.2
   obtain⟨f0,f1,f2,f3,f4⟩:=bm (wT HX.out.2.1 hf)
   obtain⟨-,-,s2,s3,s4,s5,s6,s7,s8,s9⟩:=bS HX.out.2.2.2.1
   have hneL:some gl≠some gq:=by obtain⟨cs9,fr9,hb9⟩:=jm HX.out.2.2.1 gl rfl;exact dv HX.out.2.1 hb9 (by decide)
   have hneS:some n0≠some gq:=fun q=>by cases q;have h1:=HX.out.2.2.2.2.2;omega
   have CD:=zm f s.wh g.ho U.drew
   unfold fev pv at CD
   obtain⟨d,hd⟩:=Qe (fD f s.wh g.ho)
   have Hd:Hid (d=fD f s.wh g.ho):=hd
   rw[←hd] at CD
   clear hk hk' hu hul hlk hXl hf hqb hd
   go_upto_region 8 with fail
   refine wp_region_held_drew (S:=fun w'=>U.grownBy w' (some gq)) (by kernel_rfl) (aX _ _) (fun hHeld=>?_)
   refine QZ 0 rfl ?_
   go_frame
   refine QZ 1 rfl ?_
   go_frame
   refine QZ 2 rfl ?_
   go_frame
   refine QZ 3 rfl ?_
   go_frame
   refine QT 4 rfl (by intro w0 hSw;have cl0:=hSw.cell cl0 hneL;go_simp;try with_reducible rfl) ?_
   go_frame
   refine QZ 5 rfl ?_
   go_frame
   refine QZ 6 rfl ?_
   go_frame
   refine QZ 7 rfl ?_
   go_frame
   refine QZ 8 rfl ?_
   go_frame
   refine QZ 9 rfl ?_
   go_frame
   refine QT 10 rfl (by intro w0 hSw;have cl0:=hSw.cell cl0 hneL;go_simp;try with_reducible rfl) ?_
   go_frame
   refine QZ 11 rfl ?_
   go_frame
   refine QZ 12 rfl ?_
   go_frame
   refine QZ 14 rfl ?_
   go_frame
   refine QT 15 rfl (by intro w0 hSw;have s2:=hSw.cell s2 hneS;have s3:=hSw.cell s3 hneS;have s4:=hSw.cell s4 hneS;have s5:=hSw.cell s5 hneS;have s6:=hSw.cell s6 hneS;have s7:=hSw.cell s7 hneS;have s8:=hSw.cell s8 hneS;have s9:=hSw.cell s9 hneS;go_simp;try with_reducible rfl) ?_
   go_frame
   refine QZ 16 rfl ?_
   go_frame
   refine QR 13 rfl (fun K9 hK=>?_)
   go_simp
   refine hK.out _ _ (aX _ _) (fun hHeld3=>?_)
   clear hK K9
   (try go_frame)
   refine QR 17 rfl (fun K hK=>?_)
   go_simp
   go_at_call 149
   refine(CD).mono ?_
   rintro e2 w2 ⟨rfl,g2⟩
   have HG2:Hid (U.grownBy w2 none):=ae (ai _) g2
   clear CD g2
   refine hK.out _ _ (bZ HG2.out _) (fun hHeld2=>?_)
   clear hK K
   (try go_frame)
   refine QZ 18 rfl ?_
   go_frame
   have HO2:Hid (aQ w2 V.heap.size (.slice (some ⟨gq,0,none⟩) F.length c9) X∧aV w2 w9.heap.size (.slice (some ⟨gl,0,none⟩) l.length cl) l∧SdB w2 n0 s∧w.grownBy w2 none):=⟨aw HX.out.2.1 HG2.out,aw HX.out.2.2.1 HG2.out,ag HG2.out HX.out.2.2.2.1 (by simp),ae HX.out.2.2.2.2.1 HG2.out⟩
   clear f0 f1 f2 f3 f4 s2 s3 s4 s5 s6 s7 s8 s9 cl0
   obtain⟨f0,f1,f2,f3,f4⟩:=bm (wT HO2.out.1 Hu.out.2.2.1)
   have rf:=AU HO2.out.1
   have SG:=az.Own.set (R:=feR) HO2.out.1 Hu.out.2.2.2.1 Hu.out.2.1 d
   obtain⟨Z,hZ⟩:=Qe (w2.setCells gq (u*5) (fec d))
   have HZ:Hid (aQ Z V.heap.size (.slice (some ⟨gq,0,none⟩) F.length c9) (X.set u d)∧w2.grownBy Z (some gq)):=by rw[hZ];exact SG
   have hZ':(((((w2.setCell ⟨gq,u*5,none⟩ (.int .i64 d.ho)).setCell ⟨gq,u*5+1,none⟩ (.int .u8 d.su)).setCell ⟨gq,u*5+2,none⟩ (.int .u16 d.tr)).setCell ⟨gq,u*5+3,none⟩ (.int .i64 d.po)).setCell ⟨gq,u*5+4,none⟩ (.int .i64 d.he))=Z:=by rw[hZ];rfl
   have HZS:Hid (U.grownBy Z (some gq)):=ae (bZ HG2.out _) HZ.out.2
   clear SG hZ
   refine QR 19 rfl (fun K9 hK=>?_)
   go_simp
   clear hZ'
   refine hK.out _ _ (HZS.out) (fun hHeld3=>?_)
   clear hK K9
   (try go_frame)
   refine QD ?_
   clear f0 f1 f2 f3 f4 rf hHeld hHeld2
   go_wp2_with fail
   go_roundw
   case rel=>exact⟨k+1,X.set u d,Hu.out.2.2.2.2.1,by first | rfl | (rw[hwk];rfl) | go_num,by rw[Hd.out];exact HX.out.1.step HL.out.2.1 Hu.out.1 Hu.out.2.1 (by rw[List.getD_eq_getElem?_getD,Hu.out.2.2.1];rfl),HZ.out.1,bK HO2.out.2.1 HO2.out.1 (by decide) HZ.out.2,ag HZ.out.2 HO2.out.2.2.1 (fun q=>by cases q;have h1:=HX.out.2.2.2.2.2;have h2:=Hu.out.2.2.2.2.2;omega),ar HO2.out.2.2.2 HZ.out.2 (fun y e=>by cases e;exact Ql (by rw[←Hn0.out];exact Nat.le_of_lt HX.out.2.2.2.2.2) Hu.out.2.2.2.2.2),HX.out.2.2.2.2.2⟩
   case measure=>first | exact HM.out | (rw[hwk];exact HM.out)
  ·obtain rfl:k=l.length:=Nat.le_antisymm hk' (Nat.le_of_not_lt hk)
   have k1:¬(l.length:Int)<(l.length:Int):=Int.lt_irrefl _
   have HF:Hid (aQ U w.heap.size (.slice q9 F.length c9) (bu F R (aG R (aq R F) ⟨s,ro⟩))∧w.grownBy U none):=⟨by rw[←DnU.end HT.out.1 HT.out.2.1 HT.out.2.2.1.symm (a:=⟨s,ro⟩) (by have h9:=HX.out.1;rw[←Hz.out.2.2] at h9;rw[HL.out.1] at h9;exact h9)];exact aP HX.out.2.1 (by rw[←Hn0.out];exact Nat.le_of_lt HX.out.2.2.2.2.2),HX.out.2.2.2.2.1⟩
   clear hk hk' HX
   go_wp2_with fail
   go_ret
   exact⟨_,rfl,HF.out.1,HF.out.2⟩
theorem xE (h:lkE r n cd ts F []≠0):lkE r n cd ts F S=lkE r n cd ts F []:=by
 by_cases hr:r=0
 ·subst hr
  cases q:bw n cd ts F with
  | none=>rw[kD q,kD q]
  | some R=>rw[gd q] at h;exact absurd rfl h
 ·rw[mX hr,mX hr]
theorem i7 {d:Se} (h:bH R s=some d):d.s=s∧d.ro<R.length∧(R.getD d.ro Rw.none).nu=s.th:=by
 unfold bH at h
 cases q:eV R s.th with
 | none=>rw[q] at h;cases h
 | some i =>
  rw[q] at h
  simp only at h
  split at h
  ·cases h
   unfold eV at q
   rw[List.findIdx?_eq_some_iff_getElem] at q
   obtain⟨h1,h2,-⟩:=q
   refine⟨rfl,h1,?_⟩
   rw[aB h1]
   simpa using h2
  ·cases h
theorem kO {d:Se} (h:bH R s=some d):bn R [s] []=some [d]:=by
 unfold bn
 rw[h]
 rfl
theorem je (h:bH R s=none):bn R [s] []=none:=by
 unfold bn
 rw[h]
theorem ud (ok:Nat→Prop) (r:Nat) (v:Value) (p:Pl) (gs:List Ent) (vt vf:Value) (ts:List Th) (F:List Fe) (s:Sd) (w:World) (B:RD ok w r v p gs) (A:thR.At w vt ts) (AF:feR.At w vf F) (hr:TrI F):Calls Tryz.prog 74 #[.pointer (some ⟨r,0,none⟩),vt,vf,sdv s] w (jc w (bg p ts.length) (gs.length:Int) (atC p gs) ts F s):=by
 obtain⟨pt,ct,rfl⟩:=A.form
 obtain⟨pf,cf,rfl⟩:=AF.form
 obtain⟨V,hV⟩:=Qe (w.alloc (.cells #[.int .i64 s.th,.int .i64 s.pl,.int .u8 s.wh.wn,.int .u8 s.wh.vb,.int .u8 s.wh.wm,.int .i64 s.wh.ct,.int .u8 s.wh.su,.int .u8 s.wh.tr,.int .u8 s.wh.mr,.string s.wh.nm] 64))
 have HV:Hid (SdB V w.heap.size s∧w.grownBy V none∧RD ok V r v p gs∧thR.At V (.slice pt ts.length ct) ts∧feR.At V (.slice pf F.length cf) F):=by
  have gr:w.grownBy V none:=by rw[hV];exact QG
  exact⟨by rw[hV];exact ak _ _ _,gr,B.keep gr,A.keep gr,AF.keep gr⟩
 have C1:=jJ ok r v p gs _ _ ts F V HV.out.2.2.1 HV.out.2.2.2.1 HV.out.2.2.2.2 hr
 obtain⟨q,hq⟩:=Qe (lkE (bg p ts.length) (gs.length:Int) (atC p gs) ts F [])
 have Hq:Hid (q=lkE (bg p ts.length) (gs.length:Int) (atC p gs) ts F []):=hq
 rw[←hq] at C1
 unfold sdv
 clear B A AF hr hq
 go_enter Tryz.func74,Tryz.ntmps74
 go_upto_region 1 with fail
 rw[←hV]
 obtain⟨n0,hn0⟩:=Qe (w.heap.size)
 have Hn0:Hid (n0=w.heap.size):=hn0
 rw[←hn0] at HV ⊢
 clear hV hn0
 go_wp2_with fail
 refine C1.mono ?_
 rintro e1 w1 ⟨rfl,g1⟩
 have H1:Hid (SdB w1 n0 s∧w.grownBy w1 none∧RD ok w1 r v p gs∧thR.At w1 (.slice pt ts.length ct) ts∧feR.At w1 (.slice pf F.length cf) F):=⟨ag g1 HV.out.1 (by simp),ae HV.out.2.1 g1,HV.out.2.2.1.keep g1,HV.out.2.2.2.1.keep g1,HV.out.2.2.2.2.keep g1⟩
 clear C1 g1 HV
 by_cases h0:q=0
 ·obtain⟨r0,R,hR⟩:=kB (Hq.out.symm.trans h0)
  have hlen:ts.length≤2048:=Nat.le_of_not_lt fun z=>by
   unfold bg at r0
   rw[if_pos z] at r0
   cases r0
  have HT:Hid (bg p ts.length=0∧Tab (gs.length:Int) (atC p gs) ts F R∧ts.length≤2048):=⟨r0,Tab.of hR,hlen⟩
  have e0:(q != 0)=false:=by rw[h0];rfl
  have C2:=tD ok r v p gs _ ts F R s w1 H1.out.2.2.1 H1.out.2.2.2.1 (Tab.of hR) hlen
  obtain⟨fd,hfd⟩:=Qe (bH R s)
  have Hfd:Hid (bH R s=fd):=hfd.symm
  rw[←hfd] at C2
  unfold sdv at C2
  obtain⟨s0,s1,s2,s3,s4,s5,s6,s7,s8,s9⟩:=bS H1.out.1
  clear h0 r0 hR hlen hfd
  go_wp2_with fail
  refine C2.mono ?_
  rintro e2 w2 ⟨rfl,g2⟩
  have H2:Hid (SdB w2 n0 s∧w.grownBy w2 none∧RD ok w2 r v p gs∧thR.At w2 (.slice pt ts.length ct) ts∧feR.At w2 (.slice pf F.length cf) F):=⟨ag g2 H1.out.1 (by simp),ae H1.out.2.1 g2,H1.out.2.2.1.keep g2,H1.out.2.2.2.1.keep g2,H1.out.2.2.2.2.keep g2⟩
  clear C2 g2 H1 s0 s1 s2 s3 s4 s5 s6 s7 s8 s9
  cases fd with
  | none =>
   rw[show (none:Option Se).isSome=false from rfl]
   go_wp2_with fail
   go_ret2
   have hl2:lkE (bg p ts.length) (gs.length:Int) (atC p gs) ts F [s]=2:=by rw[HT.out.1,nl HT.out.2.1.tab (je Hfd.out)]
   exact⟨none,0,0,by rw[hl2] <;> rfl,H2.out.2.1,fun _=>⟨rfl,rfl,rfl⟩,fun R' d' _ hR' hd'=>by rw[HT.out.2.1.tab] at hR';cases hR';rw[je Hfd.out] at hd';cases hd'⟩
  | some d =>
   obtain⟨f1,f2,f3⟩:=i7 Hfd.out
   have C3:=ip ok r v p gs _ _ ts F R s d.ro w2 H2.out.2.2.1 H2.out.2.2.2.1 H2.out.2.2.2.2 HT.out.2.1 f2 f3 HT.out.2.2
   rw[show (⟨s,d.ro⟩:Se)=d from by rw[←f1]] at C3
   unfold sdv at C3
   obtain⟨s0,s1,s2,s3,s4,s5,s6,s7,s8,s9⟩:=bS H2.out.1
   clear f1 f2 f3
   rw[show (some d).isSome=true from rfl]
   go_wp2_with fail
   refine C3.mono ?_
   rintro e3 w3 ⟨v3,rfl,o3,g3⟩
   obtain⟨p3,c3,ev⟩:=aV.form o3
   subst ev
   have H3:Hid (aV w3 w.heap.size (.slice p3 (cJ R (aH R (aq R F) d)).length c3) (cJ R (aH R (aq R F) d))∧w.grownBy w3 none):=⟨aP o3 H2.out.2.1.size,ae H2.out.2.1 g3⟩
   clear C3 o3 g3 s0 s1 s2 s3 s4 s5 s6 s7 s8 s9
   go_wp2_with fail
   go_ret2
   have hl2:lkE (bg p ts.length) (gs.length:Int) (atC p gs) ts F [s]=0:=by rw[HT.out.1,gN HT.out.2.1.tab (kO Hfd.out)]
   exact⟨p3,_,c3,by rw[hl2] <;> rfl,H3.out.2,fun z=>absurd hl2 z,fun R' d' _ hR' hd'=>by
    rw[HT.out.2.1.tab] at hR'
    cases hR'
    rw[kO Hfd.out] at hd'
    cases hd'
    exact H3.out.1⟩
 ·have e0:(q != 0)=true:=by simpa using h0
  have HN:Hid (lkE (bg p ts.length) (gs.length:Int) (atC p gs) ts F [s]=q):=by show _=_;rw[xE (by rw[←Hq.out];exact h0),←Hq.out]
  have H0:Hid (q≠0):=h0
  clear h0
  go_wp2_with fail
  go_ret2
  exact⟨none,0,0,by rw[HN.out] <;> rfl,H1.out.2.1,fun _=>⟨rfl,rfl,rfl⟩,fun R' d' r0 hR' _=>by
   have h9:=Hq.out
   rw[r0,gd hR'] at h9
   exact absurd h9 H0.out⟩
theorem uD (ok:Nat→Prop) (r:Nat) (v:Value) (p:Pl) (gs:List Ent) (vt vf:Value) (ts:List Th) (F:List Fe) (s:Sd) (w:World) (B:RD ok w r v p gs) (A:thR.At w vt ts) (AF:feR.At w vf F) (hr:TrI F):Calls Tryz.prog 76 #[.pointer (some ⟨r,0,none⟩),vt,vf,sdv s] w (ju w (bg p ts.length) (gs.length:Int) (atC p gs) ts F s):=by
 obtain⟨pt,ct,rfl⟩:=A.form
 obtain⟨pf,cf,rfl⟩:=AF.form
 obtain⟨V,hV⟩:=Qe (w.alloc (.cells #[.int .i64 s.th,.int .i64 s.pl,.int .u8 s.wh.wn,.int .u8 s.wh.vb,.int .u8 s.wh.wm,.int .i64 s.wh.ct,.int .u8 s.wh.su,.int .u8 s.wh.tr,.int .u8 s.wh.mr,.string s.wh.nm] 64))
 have HV:Hid (SdB V w.heap.size s∧w.grownBy V none∧RD ok V r v p gs∧thR.At V (.slice pt ts.length ct) ts∧feR.At V (.slice pf F.length cf) F):=by
  have gr:w.grownBy V none:=by rw[hV];exact QG
  exact⟨by rw[hV];exact ak _ _ _,gr,B.keep gr,A.keep gr,AF.keep gr⟩
 have C1:=jJ ok r v p gs _ _ ts F V HV.out.2.2.1 HV.out.2.2.2.1 HV.out.2.2.2.2 hr
 obtain⟨q,hq⟩:=Qe (lkE (bg p ts.length) (gs.length:Int) (atC p gs) ts F [])
 have Hq:Hid (q=lkE (bg p ts.length) (gs.length:Int) (atC p gs) ts F []):=hq
 rw[←hq] at C1
 unfold sdv
 clear B A AF hr hq
 go_enter Tryz.func76,Tryz.ntmps76
 go_upto_region 1 with fail
 rw[←hV]
 obtain⟨n0,hn0⟩:=Qe (w.heap.size)
 have Hn0:Hid (n0=w.heap.size):=hn0
 rw[←hn0] at HV ⊢
 clear hV hn0
 go_wp2_with fail
 refine C1.mono ?_
 rintro e1 w1 ⟨rfl,g1⟩
 have H1:Hid (SdB w1 n0 s∧w.grownBy w1 none∧RD ok w1 r v p gs∧thR.At w1 (.slice pt ts.length ct) ts∧feR.At w1 (.slice pf F.length cf) F):=⟨ag g1 HV.out.1 (by simp),ae HV.out.2.1 g1,HV.out.2.2.1.keep g1,HV.out.2.2.2.1.keep g1,HV.out.2.2.2.2.keep g1⟩
 clear C1 g1 HV
 by_cases h0:q=0
 ·obtain⟨r0,R,hR⟩:=kB (Hq.out.symm.trans h0)
  have hlen:ts.length≤2048:=Nat.le_of_not_lt fun z=>by
   unfold bg at r0
   rw[if_pos z] at r0
   cases r0
  have HT:Hid (bg p ts.length=0∧Tab (gs.length:Int) (atC p gs) ts F R∧ts.length≤2048):=⟨r0,Tab.of hR,hlen⟩
  have e0:(q != 0)=false:=by rw[h0];rfl
  have C2:=tD ok r v p gs _ ts F R s w1 H1.out.2.2.1 H1.out.2.2.2.1 (Tab.of hR) hlen
  obtain⟨fd,hfd⟩:=Qe (bH R s)
  have Hfd:Hid (bH R s=fd):=hfd.symm
  rw[←hfd] at C2
  unfold sdv at C2
  obtain⟨s0,s1,s2,s3,s4,s5,s6,s7,s8,s9⟩:=bS H1.out.1
  clear h0 r0 hR hlen hfd
  go_wp2_with fail
  refine C2.mono ?_
  rintro e2 w2 ⟨rfl,g2⟩
  have H2:Hid (SdB w2 n0 s∧w.grownBy w2 none∧RD ok w2 r v p gs∧thR.At w2 (.slice pt ts.length ct) ts∧feR.At w2 (.slice pf F.length cf) F):=⟨ag g2 H1.out.1 (by simp),ae H1.out.2.1 g2,H1.out.2.2.1.keep g2,H1.out.2.2.2.1.keep g2,H1.out.2.2.2.2.keep g2⟩
  clear C2 g2 H1 s0 s1 s2 s3 s4 s5 s6 s7 s8 s9
  cases fd with
  | none =>
   rw[show (none:Option Se).isSome=false from rfl]
   go_wp2_with fail
   go_ret2
   have hl2:lkE (bg p ts.length) (gs.length:Int) (atC p gs) ts F [s]=2:=by rw[HT.out.1,nl HT.out.2.1.tab (je Hfd.out)]
   exact⟨none,0,0,by rw[hl2] <;> rfl,H2.out.2.1,fun _=>⟨rfl,rfl,rfl⟩,fun R' d' _ hR' hd'=>by rw[HT.out.2.1.tab] at hR';cases hR';rw[je Hfd.out] at hd';cases hd'⟩
  | some d =>
   obtain⟨f1,f2,f3⟩:=i7 Hfd.out
   have C3:=jO ok r v p gs _ _ ts F R s d.ro w2 H2.out.2.2.1 H2.out.2.2.2.1 H2.out.2.2.2.2 HT.out.2.1 f2 f3 HT.out.2.2
   rw[show (⟨s,d.ro⟩:Se)=d from by rw[←f1]] at C3
   unfold sdv at C3
   obtain⟨s0,s1,s2,s3,s4,s5,s6,s7,s8,s9⟩:=bS H2.out.1
   clear f1 f2 f3
   rw[show (some d).isSome=true from rfl]
   go_wp2_with fail
   refine C3.mono ?_
   rintro e3 w3 ⟨v3,rfl,o3,g3⟩
   obtain⟨p3,c3,ev⟩:=az.Own.form o3
   subst ev
   have H3:Hid (aQ w3 w.heap.size (.slice p3 (bu F R (aG R (aq R F) d)).length c3) (bu F R (aG R (aq R F) d))∧w.grownBy w3 none):=⟨aP o3 H2.out.2.1.size,ae H2.out.2.1 g3⟩
   clear C3 o3 g3 s0 s1 s2 s3 s4 s5 s6 s7 s8 s9
   go_wp2_with fail
   go_ret2
   have hl2:lkE (bg p ts.length) (gs.length:Int) (atC p gs) ts F [s]=0:=by rw[HT.out.1,gN HT.out.2.1.tab (kO Hfd.out)]
   exact⟨p3,_,c3,by rw[hl2] <;> rfl,H3.out.2,fun z=>absurd hl2 z,fun R' d' _ hR' hd'=>by
    rw[HT.out.2.1.tab] at hR'
    cases hR'
    rw[kO Hfd.out] at hd'
    cases hd'
    exact H3.out.1⟩
 ·have e0:(q != 0)=true:=by simpa using h0
  have HN:Hid (lkE (bg p ts.length) (gs.length:Int) (atC p gs) ts F [s]=q):=by show _=_;rw[xE (by rw[←Hq.out];exact h0),←Hq.out]
  have H0:Hid (q≠0):=h0
  clear h0
  go_wp2_with fail
  go_ret2
  exact⟨none,0,0,by rw[HN.out] <;> rfl,H1.out.2.1,fun _=>⟨rfl,rfl,rfl⟩,fun R' d' r0 hR' _=>by
   have h9:=Hq.out
   rw[r0,gd hR'] at h9
   exact absurd h9 H0.out⟩
end Go.Proofs.YtjmepebbcnhalaaGreat
