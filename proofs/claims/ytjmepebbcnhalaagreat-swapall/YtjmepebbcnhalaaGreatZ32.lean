import Derived.Test.YtjmepebbcnhalaaGreatZ31
namespace Go.Proofs.YtjmepebbcnhalaaGreat
open Tryz
open Go.RowKit Go.Shelf
variable {R:List Rw} {s:Sd} {n nu:Int} {cd:Int→Hd×List Pt} {ts:List Th} {fs F:List Fe} {k g off c m i:Nat} {e:Se} {L:List Se} {w:World} {ok:Nat→Prop} {v:Value} {p:Pl} {gs:List Ent} {ps:List Pt} {q:Pt} {P:Program} {Q:Exit→Act→World→Prop}
theorem lF {d:Se} (h:dZ R s=some d):d.s=s∧d.ro<R.length∧(R.getD d.ro Rw.none).nu=s.th:=by
 unfold dZ at h;cases q:iB R s.th with
 | none=>rw[q] at h;cases h
 | some i =>
  rw[q] at h;simp only at h;split at h
  ·cases h;unfold iB at q;rw[Qcq] at q;obtain⟨h1,h2,-⟩:=q;refine⟨rfl,h1,?_⟩;rw[aG h1];simpa using h2
  ·cases h
set_option maxRecDepth 100000
set_option maxHeartbeats 4000000
theorem GX (h:Tab n cd ts fs R) (F G:List Fe) (a:Se):fC R (bC R F a)=fC R (bC R G a)↔bC R F a=bC R G a:=by
 refine⟨fun e=>?_,fun e=>by rw[e]⟩
 have key:∀ i,i<R.length→gn R F a i=gn R G a i:=fun i hi=>by
  have one:∀ A B:List Fe,fC R (bC R A a)=fC R (bC R B a)→gn R A a i=true→gn R B a i=true:=fun A B e hb=>by
   have hm:(R.getD i Rw.none).nu∈fC R (bC R B a):=(by rw[←e];exact jH.2 ⟨i,hi,hb,rfl⟩);obtain⟨k,hk,hb',e'⟩:=jH.1 hm;have:=ll h.nod hk hi e';subst this;exact hb'
  rw[Qd3];exact⟨one F G e,one G F e.symm⟩
 unfold bC lO;refine Qd4 fun i hi=>key i (Qdb.1 hi)
theorem zv {a b:List Int} (ha:k<a.length) (hb:k<b.length) (h:a.take k=b.take k) (e:a.getD k 0=b.getD k 0):a.take (k+1)=b.take (k+1):=by
 rw[Qat,Qat,h,Qg ha,Qg hb,←aG (d:=(0:Int)) ha,←aG (d:=(0:Int)) hb,e]
def pfx (a b:List Int) (k:Nat):Prop:=a.take k=b.take k
theorem FD {a b:List Int} (h:pfx a b a.length) (hl:a.length=b.length):a=b:=by
 unfold pfx at h;rwa [Qas,hl,Qas] at h
theorem B3 (b1 b2:Nat) (v1 v2:Value) (a b:List Int) (w:World) (A:bm w b1 v1 a) (B:bm w b2 v2 b) (hl:a.length≤16):Calls prog 211 #[v1,v2] w fun e w'=>e=.returned (.bool (decide (a=b)))∧w.grownBy w' none:=by
 obtain⟨p1,c1,rfl⟩:=bm.form A;obtain⟨p2,c2,rfl⟩:=bm.form B;have HA:QH (bm w b1 (.slice p1 a.length c1) a∧bm w b2 (.slice p2 b.length c2) b∧a.length≤16):=⟨A,B,hl⟩
 clear A B hl;go_enter func211,ntmps211;by_cases hlen:a.length=b.length
 ·have en:((a.length:Int) != (b.length:Int))=false:=by rw[hlen];simp
  have HLn:QH (a.length=b.length):=hlen;clear hlen;go_wp2_with fail;go_loopw [5] (fun y wr=>∃ k:Nat,k≤a.length∧y=.int .i64 (k:Int)∧QH (pfx a b k∧bm wr b1 (.slice p1 a.length c1) a∧bm wr b2 (.slice p2 b.length c2) b∧w.grownBy wr none)) (fun y _=>a.length - (intOf y).toNat)
  case atStart=>exact⟨0,Q0 _,rfl,rfl,HA.o.1,HA.o.2.1,aw _ _⟩
  case round =>
   obtain⟨k,hk',rfl,HX⟩:=hrel;obtain⟨U,hU⟩:=Qe (wr);subst hU;by_cases hk:k<a.length
   ·have k1:(k:Int)<(a.length:Int):=Int.ofNat_lt.2 hk;have k2:(k:Int)<(b.length:Int):=(by rw[←HLn.o];exact k1);have hwk:=aR (k:=k) (Ql (Qaf hk) (Ql HA.o.2.2 (by decide)));have HM:QH (a.length - (intOf (.int .i64 ((k:Int)+1))).toNat<a.length - (intOf (.int .i64 (k:Int))).toNat):=cj hk;have hkb:k<b.length:=(by rw[←HLn.o];exact hk);obtain⟨ga,ea,ca⟩:=jw HX.o.2.1 hk;subst ea;obtain⟨gb,eb,cb⟩:=jw HX.o.2.2.1 hkb;subst eb;obtain⟨x,hx⟩:=Qe (a.getD k 0);obtain⟨y,hy⟩:=Qe (b.getD k 0);have Hk:QH (k<a.length∧k<b.length∧x=a.getD k 0∧y=b.getD k 0):=⟨hk,hkb,hx,hy⟩
    rw[←hx] at ca;rw[←hy] at cb;clear hk hk' hkb hx hy;by_cases hxy:x=y
    ·have e1:(x != y)=false:=(by rw[hxy];simp);have HN:QH (pfx a b (k+1)):=zv Hk.o.1 Hk.o.2.1 HX.o.1 (by rw[←Hk.o.2.2.1,←Hk.o.2.2.2,hxy]);clear hxy;go_upto_region 6 with fail;go_quiet (fail);go_wp2_with fail;go_roundw
     case rel=>exact⟨k+1,Hk.o.1,by first | rfl | (rw[hwk];rfl) | go_num,HN.o,HX.o.2.1,HX.o.2.2.1,aa HX.o.2.2.2 (aA _ _ _)⟩
     case measure=>first | exact HM.o | (rw[hwk];exact HM.o)
    ·have e1:(x != y)=true:=by simpa using hxy
     have HN:QH (decide (a=b)=false):=Qx fun e=>by
      apply hxy;rw[Hk.o.2.2.1,Hk.o.2.2.2,e]
     clear hxy;go_upto_region 6 with fail;go_quiet (fail);go_wp2_with fail;go_ret;exact⟨by rw[HN.o] <;> rfl,aa HX.o.2.2.2 (aA _ _ _)⟩
   ·obtain rfl:k=a.length:=Qag hk' (Qac hk);have k1:¬(a.length:Int)<(a.length:Int):=Qb3 _;have HN:QH (decide (a=b)=true):=Qy (FD HX.o.1 HLn.o);clear hk hk';go_wp2_with fail;go_ret;exact⟨by rw[HN.o] <;> rfl,HX.o.2.2.2⟩
 ·have en:((a.length:Int) != (b.length:Int))=true:=by simpa using fun e:(a.length:Int)=(b.length:Int)=>hlen (by omega)
  have HN:QH (decide (a=b)=false):=Qx fun e=>hlen (by rw[e]);clear hlen;go_wp2_with fail;go_ret;exact⟨by rw[HN.o] <;> rfl,aw _ _⟩
theorem Tab.turned (h:Tab n cd ts F R) {e:Se} (he:e.ro<R.length):Tab n cd ts (ei F R (bK R (ay R F) e)) R∧ay R (ei F R (bK R (ay R F) e))=bK R (ay R F) e:=by
 have hl:(bK R (ay R F) e).length=R.length:=by unfold bK;rw[Qa9,Qc0,fk]
 exact⟨h.back hl (oq (by rw[fk];exact he) h.good),h.pick hl⟩
theorem kB (ok:Nat→Prop) (r:Nat) (v:Value) (p:Pl) (gs:List Ent) (vt vf:Value) (ts:List Th) (F:List Fe) (R:List Rw) (s:Sd) (ro:Nat) (x:Sd) (rx:Nat) (w:World) (B:RD ok w r v p gs) (A:thR.At w vt ts) (AF:feR.At w vf F) (hT:Tab (gs.length:Int) (atC p gs) ts F R) (hr:ro<R.length) (hs:(R.getD ro Rw.none).nu=s.th) (hrx:rx<R.length) (hx:(R.getD rx Rw.none).nu=x.th) (hl:ts.length≤2048):Calls prog 141 #[.pointer (some ⟨r,0,none⟩),vt,vf,sdv s,sdv x] w fun e w'=>e=.returned (.bool (uk R (ay R F) ⟨s,ro⟩ ⟨x,rx⟩))∧w.grownBy w' none:=by
 obtain⟨pt,ct,rfl⟩:=A.form;obtain⟨pf,cf,rfl⟩:=AF.form;obtain⟨V,hV⟩:=Qe ((w.alloc (.cells #[.int .i64 s.th,.int .i64 s.pl,.int .u8 s.wh.wn,.int .u8 s.wh.vb,.int .u8 s.wh.wm,.int .i64 s.wh.ct,.int .u8 s.wh.su,.int .u8 s.wh.tr,.int .u8 s.wh.mr,.string s.wh.nm] 64)).alloc (.cells #[.int .i64 x.th,.int .i64 x.pl,.int .u8 x.wh.wn,.int .u8 x.wh.vb,.int .u8 x.wh.wm,.int .i64 x.wh.ct,.int .u8 x.wh.su,.int .u8 x.wh.tr,.int .u8 x.wh.mr,.string x.wh.nm] 64))
 have HV:QH (SdB V w.heap.size s∧SdB V (w.heap.size+1) x∧w.grownBy V none∧RD ok V r v p gs∧thR.At V (.slice pt ts.length ct) ts∧feR.At V (.slice pf F.length cf) F):=by
  have gr:w.grownBy V none:=by rw[hV];exact am QG _
  exact⟨by rw[hV];exact ag QG (aj w _ _) (by simp),by rw[hV];exact aT _ _ _ _,gr,B.keep gr,A.keep gr,AF.keep gr⟩
 have HT:QH (Tab (gs.length:Int) (atC p gs) ts F R∧ro<R.length∧(R.getD ro Rw.none).nu=s.th∧rx<R.length∧(R.getD rx Rw.none).nu=x.th∧ts.length≤2048):=⟨hT,hr,hs,hrx,hx,hl⟩
 have C1:=jX ok r v p gs _ _ ts F R s ro V.drew (HV.o.2.2.2.1.keep (ai _)) (HV.o.2.2.2.2.1.keep (ai _)) (HV.o.2.2.2.2.2.keep (ai _)) hT hr hs hl;have C2:QH (∀ W,V.grownBy W none→Calls prog 72 #[.pointer (some ⟨r,0,none⟩),.slice pt ts.length ct,.slice pf F.length cf,.agg #[.int .i64 x.th,.int .i64 x.pl,.int .u8 x.wh.wn,.int .u8 x.wh.vb,.int .u8 x.wh.wm,.int .i64 x.wh.ct,.int .u8 x.wh.su,.int .u8 x.wh.tr,.int .u8 x.wh.mr,.string x.wh.nm]] W fun e w'=>∃ v,e=.returned v∧cJ w' W.heap.size v (ei F R (bK R (ay R F) ⟨x,rx⟩))∧W.grownBy w' none):=fun W g=>oU ok r v p gs _ _ ts F R x rx W (HV.o.2.2.2.1.keep g) (HV.o.2.2.2.2.1.keep g) (HV.o.2.2.2.2.2.keep g) hT hrx hx hl;unfold sdv at C1;unfold sdv;clear B A AF hT hr hs hrx hx hl;go_enter func141,ntmps141;go_upto_region 1 with fail;rw[←hV];obtain⟨n0,hn0⟩:=Qe (w.heap.size);have Hn0:QH (n0=w.heap.size):=hn0;rw[←hn0] at HV ⊢;obtain⟨n1,hn1⟩:=Qe (n0+1);rw[←hn1] at HV ⊢;clear hV hn0 hn1;obtain⟨s0,s1,s2,s3,s4,s5,s6,s7,s8,s9⟩:=aQ HV.o.1;obtain⟨o0,o1,o2,o3,o4,o5,o6,o7,o8,o9⟩:=aQ HV.o.2.1;refine wp_region_held_drew (S:=fun w'=>V.grownBy w' none) (by kernel_rfl) (ai _) (fun hHeld=>?_);refine QZ 0 rfl ?_;go_frame;refine QZ 1 rfl ?_;go_frame;refine QZ 2 rfl ?_;go_frame;refine QT 3 rfl (by intro w0 hSw;have s0:=QK hSw s0;have s1:=QK hSw s1;have s2:=QK hSw s2;have s3:=QK hSw s3;have s4:=QK hSw s4;have s5:=QK hSw s5;have s6:=QK hSw s6;have s7:=QK hSw s7;have s8:=QK hSw s8;have s9:=QK hSw s9;go_simp;try with_reducible rfl) ?_;go_frame;refine QZ 5 rfl ?_;go_frame;refine QZ 6 rfl ?_;go_frame;refine QZ 7 rfl ?_;go_frame;refine QZ 8 rfl ?_;go_frame;refine QZ 9 rfl ?_;go_frame;refine QT 10 rfl (by intro w0 hSw;have o0:=QK hSw o0;have o1:=QK hSw o1;have o2:=QK hSw o2;have o3:=QK hSw o3;have o4:=QK hSw o4;have o5:=QK hSw o5;have o6:=QK hSw o6;have o7:=QK hSw o7;have o8:=QK hSw o8;have o9:=QK hSw o9;go_simp;try with_reducible rfl) ?_;go_frame;refine QT 12 rfl (by intro w0 hSw;have s0:=QK hSw s0;have s1:=QK hSw s1;have s2:=QK hSw s2;have s3:=QK hSw s3;have s4:=QK hSw s4;have s5:=QK hSw s5;have s6:=QK hSw s6;have s7:=QK hSw s7;have s8:=QK hSw s8;have s9:=QK hSw s9;go_simp;try with_reducible rfl) ?_;go_frame;clear s0 s1 s2 s3 s4 s5 s6 s7 s8 s9 o0 o1 o2 o3 o4 o5 o6 o7 o8 o9;refine QR 4 rfl (fun K hK=>?_);go_simp;go_at_call 148;refine(C1).mono ?_;rintro e2 w2 ⟨v2,rfl,a2,g2⟩;obtain⟨p2,c2,ev⟩:=bm.form a2;subst ev;have H2:QH (V.grownBy w2 none∧bm w2 V.drew.heap.size (.slice p2 (fC R (bC R (ay R F) ⟨s,ro⟩)).length c2) (fC R (bC R (ay R F) ⟨s,ro⟩))):=⟨aa (ai _) g2,a2⟩
 clear g2 a2 C1;obtain⟨la,hla⟩:=Qe (fC R (bC R (ay R F) ⟨s,ro⟩));have Hla:QH (la=fC R (bC R (ay R F) ⟨s,ro⟩)):=hla;rw[←hla] at H2 ⊢;clear hla;refine hK.out _ _ (H2.o.1) (fun hHeld2=>?_);clear hK K;(try go_frame);refine QR 11 rfl (fun K hK=>?_);go_simp;go_at_call 72;refine(C2.o _ H2.o.1).mono ?_;rintro e3 w3 ⟨v3,rfl,a3,g3⟩;obtain⟨p3,c3,ev⟩:=aB.Own.form a3;subst ev;have HG3:QH (V.grownBy w3 none∧bm w3 V.drew.heap.size (.slice p2 la.length c2) la):=⟨aa H2.o.1 g3,aC H2.o.2 g3⟩
 obtain⟨tb,pk⟩:=HT.o.1.turned (e:=⟨x,rx⟩) HT.o.2.2.2.1;have C3:=jX ok r v p gs _ _ ts _ R s ro w3 (HV.o.2.2.2.1.keep HG3.o.1) (HV.o.2.2.2.2.1.keep HG3.o.1) (aB.Own.at a3) tb HT.o.2.1 HT.o.2.2.1 HT.o.2.2.2.2.2;rw[pk] at C3;unfold sdv at C3;clear g3 a3 C2 H2 tb pk;refine hK.out _ _ (HG3.o.1) (fun hHeld2=>?_);clear hK K;(try go_frame);refine QR 13 rfl (fun K hK=>?_);go_simp;go_at_call 148;refine(C3).mono ?_;rintro e4 w4 ⟨v4,rfl,a4,g4⟩;obtain⟨p4,c4,ev⟩:=bm.form a4;subst ev;have H4:QH (V.grownBy w4 none):=aa HG3.o.1 g4;have C4:=B3 _ _ _ _ la _ w4 (aC HG3.o.2 g4) a4 (by rw[Hla.o];exact Ql (nt _ _ _) HT.o.1.few);obtain⟨lb,hlb⟩:=Qe (fC R (bC R (bK R (ay R F) ⟨x,rx⟩) ⟨s,ro⟩))
 have HD:QH ((!decide (la=lb))=uk R (ay R F) ⟨s,ro⟩ ⟨x,rx⟩):=by
  show _=_;unfold uk;rw[Hla.o,hlb]
  congr 1
  exact decide_eq_decide.2 (GX HT.o.1 _ _ _)
 rw[←hlb] at C4 ⊢;clear g4 a4 C3 HG3 hlb;refine hK.out _ _ (H4.o) (fun hHeld2=>?_);clear hK K;(try go_frame);refine QR 14 rfl (fun K hK=>?_);go_simp;go_at_call 211;refine(C4).mono ?_;rintro e5 w5 ⟨rfl,g5⟩;have H5:QH (V.grownBy w5 none):=aa H4.o g5;clear g5 C4 H4;refine hK.out _ _ (H5.o) (fun hHeld2=>?_);clear hK K;(try go_frame);refine QZ 15 rfl ?_;go_frame;refine QZ 16 rfl ?_;go_frame;refine QD ?_;go_wp2_with fail;go_ret;exact⟨by rw[HD.o] <;> rfl,aa HV.o.2.2.1 H5.o⟩
def ahB (a b c d:Int):Bool:=decide (a<b) || (decide (a=b) && decide (c<d))
theorem DB (vt:Value) (ts:List Th) (s x:Sd) (z y:Nat) (t u:Th) (w:World) (A:thR.At w vt ts) (hz:s.th=(z:Int)+1) (ht:ts[z]?=some t) (hy:x.th=(y:Int)+1) (hu:ts[y]?=some u) (hl:ts.length≤2048):Calls prog 140 #[vt,sdv s,sdv x] w fun e w'=>e=.returned (.bool (ahB t.stamp u.stamp s.pl x.pl))∧w.grownBy w' none:=by
 obtain⟨pt,ct,rfl⟩:=A.form;obtain⟨V,hV⟩:=Qe ((w.alloc (.cells #[.int .i64 s.th,.int .i64 s.pl,.int .u8 s.wh.wn,.int .u8 s.wh.vb,.int .u8 s.wh.wm,.int .i64 s.wh.ct,.int .u8 s.wh.su,.int .u8 s.wh.tr,.int .u8 s.wh.mr,.string s.wh.nm] 64)).alloc (.cells #[.int .i64 x.th,.int .i64 x.pl,.int .u8 x.wh.wn,.int .u8 x.wh.vb,.int .u8 x.wh.wm,.int .i64 x.wh.ct,.int .u8 x.wh.su,.int .u8 x.wh.tr,.int .u8 x.wh.mr,.string x.wh.nm] 64))
 have HV:QH (SdB V w.heap.size s∧SdB V (w.heap.size+1) x∧w.grownBy V none∧thR.At V (.slice pt ts.length ct) ts):=by
  have gr:w.grownBy V none:=by rw[hV];exact am QG _
  exact⟨by rw[hV];exact ag QG (aj w _ _) (by simp),by rw[hV];exact aT _ _ _ _,gr,A.keep gr⟩
 have hzl:z<ts.length:=(Qh ht).1;have hyl:y<ts.length:=(Qh hu).1;obtain⟨wz,wz2,z1⟩:=wrS hzl hl;obtain⟨wy,wy2,y1⟩:=wrS hyl hl;obtain⟨gT,oT,cT,eT,-⟩:=bz HV.o.2.2.2 hzl;injection eT with eT eT2 eT3;clear eT2 eT3;subst eT;obtain⟨-,-,-,t3,-⟩:=aZ (gx HV.o.2.2.2 ht);obtain⟨-,-,-,u3,-⟩:=aZ (gx HV.o.2.2.2 hu);obtain⟨a,ha⟩:=Qe (t.stamp);obtain⟨b,hb⟩:=Qe (u.stamp);rw[←ha] at t3 ⊢;rw[←hb] at u3 ⊢;clear ha hb;have Hz:QH (s.th=(z:Int)+1∧x.th=(y:Int)+1):=⟨hz,hy⟩
 unfold sdv;clear A hl ht hu hzl hyl hz hy;go_enter func140,ntmps140;go_upto_region 1 with fail;rw[←hV];obtain⟨n0,hn0⟩:=Qe (w.heap.size);rw[←hn0] at HV ⊢;obtain⟨n1,hn1⟩:=Qe (n0+1);rw[←hn1] at HV ⊢;clear hV hn0 hn1;obtain⟨s0,s1,-,-,-,-,-,-,-,-⟩:=aQ HV.o.1;obtain⟨o0,o1,-,-,-,-,-,-,-,-⟩:=aQ HV.o.2.1;rw[Hz.o.1] at s0;rw[Hz.o.2] at o0;have HG:QH (w.grownBy V none):=HV.o.2.2.1;clear HV Hz;by_cases h1:a<b
 ·have d1:decide (a<b)=true:=Qy h1;have HN:QH (ahB a b s.pl x.pl=true):=by show _=_;unfold ahB;rw[d1];rfl
  clear h1;go_wp2_with fail;go_ret;exact⟨by rw[HN.o] <;> rfl,HG.o⟩
 ·have d1:decide (a<b)=false:=Qx h1;by_cases h2:a=b
  ·have d2:(a == b)=true:=(by rw[h2];exact beq_self_eq_true _);by_cases h3:s.pl<x.pl
   ·have d3:decide (s.pl<x.pl)=true:=Qy h3;have HN:QH (ahB a b s.pl x.pl=true):=(by show _=_;unfold ahB;rw[d1,d3,Qy h2];rfl);clear h1 h2 h3;go_wp2_with fail;go_ret;exact⟨by rw[HN.o] <;> rfl,HG.o⟩
   ·have d3:decide (s.pl<x.pl)=false:=Qx h3;have HN:QH (ahB a b s.pl x.pl=false):=(by show _=_;unfold ahB;rw[d1,d3];simp);clear h1 h2 h3;go_wp2_with fail;go_ret;exact⟨by rw[HN.o] <;> rfl,HG.o⟩
  ·have d2:(a == b)=false:=(by simpa using h2);have HN:QH (ahB a b s.pl x.pl=false):=(by show _=_;unfold ahB;rw[d1,Qx h2];rfl);clear h1 h2;go_wp2_with fail;go_ret;exact⟨by rw[HN.o] <;> rfl,HG.o⟩
theorem pG:∀ (n:Nat) (l:List Nat),l.Nodup→(∀ x∈l,x<n)→l.length≤n
 | 0,[],_,_=>Qj _
 | 0,x :: _,_,h=>absurd (h x (Qaw ..)) (Qbh _)
 | n+1,l,hn,h=>by
  by_cases hm:n∈l
  ·have ih:=pG n (l.erase n) (hn.erase n) fun x hx=>by
    have h1:=h x (List.mem_of_mem_erase hx);have h2:x≠n:=fun e=>by subst e;exact(List.Nodup.mem_erase_iff hn).1 hx |>.1 rfl
    omega
   rw[List.length_erase_of_mem hm] at ih;omega
  ·exact Qca (pG n l hn fun x hx=>by
    have h1:=h x hx;have h2:x≠n:=fun e=>hm (by rw[←e];exact hx)
    omega)
theorem ze (h:eV e L=true) {o:Se} (ho:o∈L):ez e o=false:=by
 unfold eV at h;rw[Qch] at h;have:=h o ho;simpa using this
theorem jo {R:List Rw}:∀ (S:List Sd) (acc L:List Se),(acc.Pairwise fun a b=>ez b a=false)→(∀ e∈acc,dZ R e.s=some e)→cH R S acc=some L→(L.Pairwise fun a b=>ez b a=false)∧∀ e∈L,dZ R e.s=some e
 | [],acc,L,h1,h2,h=>by
  have:acc=L:=by simpa [cH] using h
  subst this;exact⟨h1,h2⟩
 | s :: S,acc,L,h1,h2,h=>by
  unfold cH at h;cases q:dZ R s with
  | none=>rw[q] at h;cases h
  | some e =>
   rw[q] at h;simp only at h;by_cases hj:eV e acc=true
   ·rw[if_pos hj] at h;refine jo S _ L ?_ ?_ h
    ·rw[List.pairwise_append];refine⟨h1,List.pairwise_singleton _ _,fun a ha b hb=>?_⟩;rw[Qby] at hb;subst hb;exact ze hj ha
    ·intro x hx;rw[Qd2,Qby] at hx
     rcases hx with hx | rfl
     ·exact h2 x hx
     ·rw[(lF q).1];exact q
   ·rw[if_neg hj] at h;cases h
theorem Fz {d:Se} (h:dZ R s=some d):0≤s.pl∧s.pl<((R.getD d.ro Rw.none).ps.length:Int):=by
 unfold dZ at h;cases q:iB R s.th with
 | none=>rw[q] at h;cases h
 | some i =>
  rw[q] at h;simp only at h;split at h
  ·rename_i hh;cases h;unfold eY at hh;simp only[Bool.and_eq_true,decide_eq_true_eq] at hh;exact⟨hh.1.1,hh.1.2⟩
  ·cases h
theorem Tab.ps4 (h:Tab n cd ts fs R) (hc:∀ c,(cd c).2.length≤4) (i:Nat):(R.getD i Rw.none).ps.length≤4:=by
 by_cases hi:i<R.length
 ·rw[aG hi];obtain⟨j,t,f,_,_,c⟩:=je _ _ _ (h.perm.mem_iff.1 (Qab hi));rw[c];exact hc _
 ·rw[Qa2,Qan (by omega)];exact Q0 _
theorem Tab.list64 (h:Tab n cd ts fs R) (hc:∀ c,(cd c).2.length≤4) {S:List Sd} {L:List Se} (q:cH R S []=some L):S.length≤64:=by
 have hlen:=rg S [] L q;obtain⟨hp,hf⟩:=jo S [] L List.Pairwise.nil (fun e he=>absurd he (by simp)) q
 have h4:∀ e∈L,e.ro<16∧0≤e.s.pl∧e.s.pl<4∧(R.getD e.ro Rw.none).nu=e.s.th:=fun e he=>by
  have a:=lF (hf e he);have b:=Fz (hf e he);have c:=h.ps4 hc e.ro;have d:=h.few;exact⟨by omega,b.1,by omega,a.2.2⟩
 have hnod:(L.map fun e=>e.ro*4+e.s.pl.toNat).Nodup:=by
  show List.Pairwise _ _;rw[Qbm];refine Qck ?_ hp;intro a b ha hb hcl e;obtain⟨a1,a2,a3,a4⟩:=h4 a ha;obtain⟨b1,b2,b3,b4⟩:=h4 b hb;have e1:a.ro=b.ro:=by omega
  have e2:b.s.pl=a.s.pl:=by omega
  have e3:b.s.th=a.s.th:=by rw[←a4,←b4,e1]
  rw[mo e3 e2] at hcl;cases hcl
 have:=pG 64 _ hnod fun x hx=>by
  obtain⟨e,he,rfl⟩:=List.mem_map.1 hx;obtain⟨a1,a2,a3,-⟩:=h4 e he;show e.ro*4+e.s.pl.toNat<64;omega
 rw[Qa9] at this;simp only[List.length_nil] at hlen;omega
theorem dy {n:Nat} {X:List Sd} (h:sdR.At w (.slice (some ⟨g,off,none⟩) n c) X) {i:Nat} {x:Sd} (hx:X[i]?=some x):w.rangeAt g (off+i*10) (sdc x):=by
 obtain⟨hi,e⟩:=Qh hx;obtain⟨g',off',cap,e1,r⟩:=eG h hi;injection e1 with e1 _ _;injection e1 with e1;injection e1 with ea eb;rw[ea,eb,←e];exact r

theorem RD.four {r:Nat} (B:RD ok w r v p gs) (c:Int):(atC p gs c).2.length≤4:=by
 unfold atC;split
 ·split
  ·rename_i e he;exact B.par e (Qm he)
  ·exact Q0 _
 ·exact Q0 _
theorem Tab.effAt (h:Tab n cd ts F R) {i:Nat} (hi:i<R.length) (k:Int):∃ (j:Nat) (t:Th) (f:Fe),ts[j]?=some t∧F[j]?=some f∧(R.getD i Rw.none).nu=(j:Int)+1∧jO R (ay R F) k i=if gH f.tr 6 then [] else fD k ((j:Int)+1) i (cd t.card).2 (cd t.card).2.length:=by
 obtain⟨j,t,ht,h4,e⟩:=h.row (show R.getD i Rw.none∈R by rw[aG hi];exact Qab _);have hj:j<F.length:=by rw[←h.len];exact(Qh ht).1
 have nj:(R.getD i Rw.none).nu=(j:Int)+1:=by rw[e]
 refine⟨j,t,F[j],ht,Qg hj,nj,?_⟩
 have p1:(ay R F).getD i Fe.none=F[j]:=by
  unfold ay;rw[gI _ _ _ Rw.none _ hi,nj,toN,aG hj]
 unfold jO;rw[p1,nj,show (R.getD i Rw.none).ps=(cd t.card).2 from by rw[e]]
def efS (R:List Rw) (F:List Fe) (k:Int) (i:Nat):List Sd:=(j7 R F k i).map Se.s
def efI (D:List Sd) (k nu:Int) (ro:Nat) (ps:List Pt) (m:Nat):List Sd:=D++(fD k nu ro ps m).map Se.s
theorem tI (D:List Sd) (k nu:Int) (ro:Nat) (ps:List Pt):efI D k nu ro ps 0=D:=by
 unfold efI fD;simp
theorem F7 {D:List Sd} {k:Int} {ro:Nat} {m:Nat} (hq:ps.getD m Pt.none=q) (h:q.wn=5) (h2:lay q.vb=k):efI D k nu ro ps (m+1)=efI D k nu ro ps m++[⟨nu,(m:Int),q⟩]:=by
 unfold efI;rw[lS,hq,if_pos ⟨h,h2⟩,Qbb,Qb8];rfl
theorem DU {D:List Sd} {k:Int} {ro:Nat} (hq:ps.getD m Pt.none=q) (h:¬(q.wn=5∧lay q.vb=k)):efI D k nu ro ps (m+1)=efI D k nu ro ps m:=by
 unfold efI;rw[lS,hq,if_neg h,Qb4]
theorem EC (D:List Sd) (k nu:Int) (ro:Nat) (ps:List Pt) (m:Nat):(efI D k nu ro ps m).length≤D.length+m:=by
 unfold efI;rw[Qa,Qa9];exact Nat.add_le_add_left (pM _ _ _ _ _) _
theorem Ex {D E:List Sd} {k:Int} {ro:Nat} (h:E=efI D k nu ro ps m) (hD:D.length≤64) (h4:ps.length≤4) (hm:m<ps.length):E.length≤68:=by
 have a:=EC D k nu ro ps m;rw[←h] at a;omega
theorem Cf {n:Nat} (h:m=n) (hn:n≤68):m+1≤maxLen∧(m+1)*56≤140737488355328:=⟨by unfold maxLen;omega,by omega⟩
theorem Fu {D:List Sd} {n:Nat} (h:D.length≤i*4) (hi:i<n) (hn:n≤16):D.length≤64:=by omega
theorem Bj {k:Int} (h:jO R F k i=[]):efS R F k (i+1)=efS R F k i:=by
 unfold efS;rw[jA,h,Qb4]
theorem EG {k:Int} (h:jO R F k i=fD k nu i ps ps.length):efS R F k (i+1)=efI (efS R F k i) k nu i ps ps.length:=by
 unfold efS efI;rw[jA,h,Qbb]
theorem jM {o:Oper} {a:Act} {K:Act→World→Prop} (s x:Operand) (t:TypeId)
  (ho:o.op=.call { callee:=.builtin .append,args:=#[s,x],argTypes:=#[t,t] })
  (base:Nat) (e:TypeId) (i:TypeInfo) (z:Value) (size bytes:Nat) (ht:P.underlying t=some (.slice e)) (hi:P.info? e=some i) (hz:i.zero=some z)
  (hsize:i.size=size) (hby:i.bytes=bytes) (hzs:z.cells.size=size) (hsz:0<size)
  (v:Value) (n:Nat) (xs:List Value) (hs:a.eval s=v) (hown:w.ownsRow base e size v n xs)
  (vx:Value) (m:Nat) (ys:List Value) (hx:a.eval x=vx) (hsrc:Src w vx m size ys) (h1:∀ u∈ys,u.oneCell'=true)
  (h63:n+m≤maxLen) (hbytes:(n+m)*bytes≤140737488355328) (hbase:base≤w.heap.size)
  (h:∀ v' w',w'.ownsRow base e size v' (n+m) (xs++ys)→w.grownBy w' v.ownBlock→(v'.ownBlock=v.ownBlock∨v'.ownBlock=some w.heap.size)→K (a.put o.dst v') w'):Oper.wp P o a w K Q:=by
 obtain⟨p,c,e1,hl,hc⟩:=hsrc;subst e1;by_cases h0:m=0
 ·subst h0;have hy:ys=[]:=List.length_eq_zero_iff.1 (by omega);subst hy;cases p with
  | none =>
   have hx2:a.eval x=.slice none 0 c:=hx;have hrun:(Builtin.append_ #[t,t] o.type #[v,.slice none 0 c]).run P w=.ok v w:=run_append_owned_none (P:=P) (w:=w) base t o.type e i size ht hi v n xs hown;unfold Oper.wp;simp[execOp,ho,resolve,invoke,builtin,hs,hx2,hrun,Result.andThen];exact h v w (by rw[Qb4];exact hown) (aw _ _) (Or.inl rfl)
  | some ad =>
   exact fQ s x t ho base e i z size bytes ht hi hz hsize hby hzs hsz v n xs hs hown ad 0 c [] hx (by simp) (fun j u hu=>by simp at hu) h1 h63 hbytes hbase h
 ·obtain⟨ad,e2,hcell⟩:=hc (by omega);subst e2;exact fQ s x t ho base e i z size bytes ht hi hz hsize hby hzs hsz v n xs hs hown ad m c ys hx hl hcell h1 h63 hbytes hbase h
theorem Df (Z:World) (e:Sd):Src (Z.alloc (.cells (sdc e).toArray 64)) (.slice (some ⟨Z.heap.size,0,none⟩) 1 1) 1 10 (sdc e):=jx (cs:=(sdc e).toArray) (aj Z _ _) rfl 1
theorem rA (ok:Nat→Prop) (r:Nat) (v:Value) (p:Pl) (gs:List Ent) (vt vf:Value) (ts:List Th) (F:List Fe) (R:List Rw) (kk:Int) (w:World) (B:RD ok w r v p gs) (A:thR.At w vt ts) (AF:feR.At w vf F) (hT:Tab (gs.length:Int) (atC p gs) ts F R) (hl:ts.length≤2048):Calls prog 68 #[.pointer (some ⟨r,0,none⟩),vt,vf,.int .i64 kk] w fun e w'=>∃ v,e=.returned v∧aV w' w.heap.size v ((dI R (ay R F) kk).map Se.s)∧w.grownBy w' none:=by
 obtain⟨i0,hi,hz0,hz1,hz2⟩:=info_parts linfoD;obtain⟨pt,ct,rfl⟩:=A.form;obtain⟨pf,cf,rfl⟩:=AF.form;have HV:QH (RD ok w r v p gs∧thR.At w (.slice pt ts.length ct) ts∧feR.At w (.slice pf F.length cf) F):=⟨B,A,AF⟩
 have H4:QH (∀ c,(atC p gs c).2.length≤4):=B.four;have HT:QH (Tab (gs.length:Int) (atC p gs) ts F R∧ts.length≤2048∧F.length≤2048):=⟨hT,hl,by rw[←hT.len];exact hl⟩
 have CO:=nU _ _ _ ts F R w A hT hl
 have HEl:QH (∀ i,(efS R (ay R F) kk i).length≤i*4):=fun i=>by
  unfold efS;rw[Qa9];exact jt (fun x=>hT.ps4 B.four x) i
 clear B A AF hT hl;go_enter func68,ntmps68;go_wp2_with fail;refine CO.mono ?_;rintro e1 w1 ⟨v1,rfl,o1,g1⟩;obtain⟨pl,cl,ev⟩:=bm.form o1;rw[Qa9] at ev;subst ev;have H1:QH (bm w1 w.heap.size (.slice pl R.length cl) (R.map Rw.nu)∧w.grownBy w1 none):=⟨o1,g1⟩
 clear CO o1 g1;go_wp2_with fail;go_loopw [9,11,12,13,14] (fun v y _ _ _ wr=>∃ (i m:Nat) (q:Option Addr) (c:Nat),i≤R.length∧y=.int .i64 (i:Int)∧v=.slice q m c∧QH (m=(efS R (ay R F) kk i).length∧aV wr w1.heap.size (.slice q m c) (efS R (ay R F) kk i)∧w1.grownBy wr none)) (fun _ y _ _ _ _=>R.length - (intOf y).toNat)
 case atStart=>exact⟨0,0,none,0,Q0 _,rfl,rfl,rfl,aB.Own.nil _ _ _ _,aw _ _⟩
 case round =>
  obtain⟨i,m0,q0,c0,hi',rfl,rfl,HQ⟩:=hrel;obtain⟨U,hU⟩:=Qe (wr);subst hU;by_cases hi2:i<R.length
  ·have i1:(i:Int)<(R.length:Int):=Int.ofNat_lt.2 hi2;have hwk:=aR (k:=i) (Ql (Qaf hi2) (Ql HT.o.1.few (by decide)));have HM:QH (R.length - (intOf (.int .i64 ((i:Int)+1))).toNat<R.length - (intOf (.int .i64 (i:Int))).toNat):=cj hi2;obtain⟨j,t,f,ht,hf,hn,hE⟩:=HT.o.1.effAt hi2 kk
   have HU:QH (bm U w.heap.size (.slice pl R.length cl) (R.map Rw.nu)∧w.grownBy U none∧RD ok U r v p gs∧thR.At U (.slice pt ts.length ct) ts∧feR.At U (.slice pf F.length cf) F):=by
    have g:=aa H1.o.2 HQ.o.2.2;exact⟨aC H1.o.1 HQ.o.2.2,g,HV.o.1.keep g,HV.o.2.1.keep g,HV.o.2.2.keep g⟩
   obtain⟨gl,ep,cl0⟩:=jw HU.o.1 (j:=i) (by rw[Qa9];exact hi2);subst ep;rw[gI _ _ _ Rw.none _ hi2,hn] at cl0;have hjt:j<ts.length:=(Qh ht).1;have hjf:j<F.length:=(Qh hf).1;obtain⟨wj,wj2,j1⟩:=wrS hjt HT.o.2.1;have j2:(j:Int)<(F.length:Int):=Int.ofNat_lt.2 hjf;obtain⟨gT,oT,cT,eT,-⟩:=bz HU.o.2.2.2.1 hjt;injection eT with eT eT2 eT3;clear eT2 eT3;subst eT;obtain⟨gF,oF,cF,eF,-⟩:=dh HU.o.2.2.2.2 hjf;injection eF with eF eF2 eF3;clear eF2 eF3;subst eF;obtain⟨t0,-⟩:=aZ (gx HU.o.2.2.2.1 ht);obtain⟨-,-,f2,-⟩:=bP (ed HU.o.2.2.2.2 hf);have Hnu:QH ((R.getD i Rw.none).nu=(j:Int)+1):=hn;have Hi:QH (i<R.length∧jO R (ay R F) kk i=if gH f.tr 6 then [] else fD kk ((j:Int)+1) i (atC p gs t.card).2 (atC p gs t.card).2.length):=⟨hi2,hE⟩
   obtain⟨mb,hmb⟩:=Qe (gH f.tr 6);have Hmb:QH (mb=gH f.tr 6):=hmb;have CH:∀ W,Calls prog 109 #[.int .u16 f.tr,.int .u8 6] W fun e w'=>e=.returned (.bool mb)∧w'=W:=fun W=>by rw[hmb];exact jy f.tr 6 W
   clear hi' hi2 ht hf hn hE hjt hjf hmb;go_upto_region 6 with fail;go_wp2_with fail;refine(CH U).mono ?_;rintro e2 w2 ⟨rfl,h2⟩;obtain rfl:U=w2:=h2.symm;clear CH f2;cases mb with
   | true =>
    have HN:QH (efS R (ay R F) kk (i+1)=efS R (ay R F) kk i):=Bj (by rw[Hi.o.2,←Hmb.o];rfl);go_wp2_with fail;go_roundw
    case rel=>exact⟨i+1,m0,q0,c0,Hi.o.1,by first | rfl | (rw[hwk];rfl) | go_num,rfl,by rw[HN.o];exact HQ.o.1,by rw[HN.o];exact HQ.o.2.1,HQ.o.2.2⟩
    case measure=>first | exact HM.o | (rw[hwk];exact HM.o)
   | false =>
    have C2:=nh ok r v p gs t.card U HU.o.2.2.1;unfold iq at C2;obtain⟨h,hh⟩:=Qe ((atC p gs t.card).1);obtain⟨ps,hps⟩:=Qe ((atC p gs t.card).2);obtain⟨x,hx⟩:=Qe (atX p gs t.card);have Hps:QH (ps.length≤4∧efS R (ay R F) kk (i+1)=efI (efS R (ay R F) kk i) kk ((j:Int)+1) i ps ps.length):=⟨by rw[hps];exact H4.o _,EG (by rw[Hi.o.2,←Hmb.o,hps];rfl)⟩
    rw[←hh,←hx,←hps] at C2;unfold cv at C2;clear hh hx hps;go_wp2_with fail;refine C2.mono ?_;rintro e3 w3 ⟨u,rfl,ou,g3⟩;obtain⟨pu,cu,rfl⟩:∃ p c,u=.slice p ps.length c:=(by obtain⟨p,c,e,_⟩:=bZ ou;exact⟨p,c,e⟩);obtain⟨Z,hZ⟩:=Qe (w3.alloc (.cells #[.string h.nm,.int .u8 h.su,.int .u8 h.kd,.int .i64 h.co,.int .i64 h.po,.int .i64 h.he,.int .u16 h.tr,.bool h.tk,.slice pu ps.length cu] 111))
    have HZ:QH (CdK Z w3.heap.size h (.slice pu ps.length cu)∧bJ Z U.heap.size (.slice pu ps.length cu) ps∧U.grownBy Z none):=by
     have g:w3.grownBy Z none:=(by rw[hZ];exact QG);exact⟨by rw[hZ];exact aj _ _ _,aC ou g,aa g3 g⟩
    clear C2 ou g3 cl0 t0;go_upto_region 8 with fail;rw[←hZ];obtain⟨nc,hnc⟩:=Qe (w3.heap.size);rw[←hnc] at HZ ⊢;clear hZ hnc;go_wp2_with fail;obtain⟨D,hD⟩:=Qe (efS R (ay R F) kk i);have HD:QH (D=efS R (ay R F) kk i∧D.length≤64):=⟨hD,Fu (by rw[hD];exact HEl.o i) Hi.o.1 HT.o.1.few⟩
    clear hD;go_loopw [9,14] (fun v y wr=>∃ (k m:Nat) (q:Option Addr) (c:Nat),k≤ps.length∧y=.int .i64 (k:Int)∧v=.slice q m c∧QH (m=(efI D kk ((j:Int)+1) i ps k).length∧aV wr w1.heap.size (.slice q m c) (efI D kk ((j:Int)+1) i ps k)∧w1.grownBy wr none∧CdK wr nc h (.slice pu ps.length cu)∧bJ wr U.heap.size (.slice pu ps.length cu) ps∧bm wr w.heap.size (.slice (some ⟨gl,0,none⟩) R.length cl) (R.map Rw.nu))) (fun _ y _=>ps.length - (intOf y).toNat)
    case atStart=>exact⟨0,m0,q0,c0,Q0 _,rfl,rfl,by rw[tI,HD.o.1];exact HQ.o.1,by rw[tI,HD.o.1];exact aB.Own.grow HQ.o.2.1 HZ.o.2.2,aa HQ.o.2.2 HZ.o.2.2,HZ.o.1,HZ.o.2.1,aC HU.o.1 HZ.o.2.2⟩
    case round =>
     obtain⟨k,m,q1,c1,hk',rfl,rfl,HY⟩:=hrel;obtain⟨Y,hY⟩:=Qe (wr);subst hY;have k8:Y.cell? ⟨nc,8,none⟩=some (.slice pu ps.length cu):=(ae HY.o.2.2.2.1 8).trans rfl;by_cases hk:k<ps.length
     ·skip
      have hkk:(k:Int)<(ps.length:Int):=Int.ofNat_lt.2 hk;have hwm:=aR (k:=k) (Ql (Qaf hk) (Ql Hps.o.1 (by decide)));have HMk:QH (ps.length - (intOf (.int .i64 ((k:Int)+1))).toNat<ps.length - (intOf (.int .i64 (k:Int))).toNat):=cj hk;obtain⟨gp,op,cp,ep,hpt⟩:=(bJ.at HY.o.2.2.2.2.1).part (Qbg (Q0 _) hk);obtain⟨q,hq⟩:∃ q,ps[k]?=some q:=⟨_,Qg hk⟩
      obtain⟨p0,p1,p2,p3,p4,p5,p6,p7⟩:=hpt k q hq;injection ep with ep ep2 ep3;clear ep2 ep3;subst ep;have Hk:QH (k<ps.length∧ps.getD k Pt.none=q):=⟨hk,by rw[Qa2,hq];rfl⟩
      obtain⟨ly,hly⟩:=Qe (lay q.vb);have Hly:QH (ly=lay q.vb):=hly;have CL:∀ W,Calls prog 139 #[.int .u8 q.vb] W fun e w'=>e=.returned (.int .i64 ly)∧w'=W:=fun W=>by rw[hly];exact tD q.vb W
      clear hk' hk hq hpt hly;by_cases w5:q.wn=5
      ·have d5:(q.wn == 5)=true:=(by rw[w5];rfl);have H5:QH (q.wn=5):=w5;clear w5;by_cases wl:ly=kk
       ·have dl:(ly == kk)=true:=(by rw[wl];exact beq_self_eq_true _);have HN:QH (efI D kk ((j:Int)+1) i ps (k+1)=efI D kk ((j:Int)+1) i ps k++[⟨(j:Int)+1,(k:Int),q⟩]):=F7 Hk.o.2 H5.o (by rw[←Hly.o];exact wl);clear wl;go_wp2_with fail;refine(CL Y).mono ?_;rintro e4 w4 ⟨rfl,h4⟩;obtain rfl:Y=w4:=h4.symm;clear CL;obtain⟨E,hE⟩:=Qe (efI D kk ((j:Int)+1) i ps k)
        have HE:QH (E=efI D kk ((j:Int)+1) i ps k∧m=E.length∧E.length≤68):=by
         exact⟨hE,by rw[hE];exact HY.o.1,Ex hE HD.o.2 Hps.o.1 Hk.o.1⟩
        have HO:QH (Y.ownsRow w1.heap.size 64 10 (.slice q1 m c1) m (sdR.cs E)):=by
         have h9:=HY.o.2.1;unfold aV aB.Own at h9;rw[←hE,←HE.o.2.1] at h9;exact h9
        clear hE
        have HLn:QH (m+1≤maxLen∧(m+1)*56≤140737488355328∧w1.heap.size≤Y.heap.size):=by
         have a:=Cf HE.o.2.1 HE.o.2.2;exact⟨a.1,a.2,HY.o.2.2.1.size⟩
        have hneL:some gl≠(Value.slice q1 m c1).ownBlock:=(by obtain⟨cs9,fr9,hb9⟩:=iy HY.o.2.2.2.2.2 gl rfl;exact bD HO.o hb9 (by decide));have hneP:some gp≠(Value.slice q1 m c1).ownBlock:=(by obtain⟨cs9,fr9,hb9⟩:=iy HY.o.2.2.2.2.1 gp rfl;exact bD HO.o hb9 (by decide));have hneC:some nc≠(Value.slice q1 m c1).ownBlock:=bD HO.o HY.o.2.2.2.1 (by decide);have hLi:=jw HY.o.2.2.2.2.2 (j:=i) (by rw[Qa9];exact Hi.o.1);obtain⟨gl',egl,cl0⟩:=hLi;injection egl with egl;injection egl with egl _;subst egl;rw[gI _ _ _ Rw.none _ Hi.o.1,Hnu.o] at cl0;go_upto_region 12 with fail;refine wp_region_held_drew (S:=fun w'=>Y.grownBy w' (Value.slice q1 m c1).ownBlock) (by kernel_rfl) (dK _ _) (fun hHeld=>?_);refine QZ 0 rfl ?_;go_frame;refine QZ 1 rfl ?_;go_frame;refine QZ 2 rfl ?_;go_frame;refine QZ 3 rfl ?_;go_frame;refine QT 4 rfl (by intro w0 hSw;have cl0:=hSw.cell cl0 hneL;go_simp;try with_reducible rfl) ?_;go_frame;refine QZ 5 rfl ?_;go_frame;refine QZ 6 rfl ?_;go_frame;refine QT 7 rfl (by intro w0 hSw;have k8:=hSw.cell k8 hneC;go_simp;try with_reducible rfl) ?_;go_frame;refine QZ 8 rfl ?_;go_frame;refine QZ 9 rfl ?_;go_frame;refine QT 10 rfl (by intro w0 hSw;have p0:=hSw.cell p0 hneP;have p1:=hSw.cell p1 hneP;have p2:=hSw.cell p2 hneP;have p3:=hSw.cell p3 hneP;have p4:=hSw.cell p4 hneP;have p5:=hSw.cell p5 hneP;have p6:=hSw.cell p6 hneP;have p7:=hSw.cell p7 hneP;go_simp;try with_reducible rfl) ?_;go_frame;refine QZ 11 rfl ?_;go_frame;refine QR 12 rfl (fun K9 hK=>?_);go_simp;refine hK.out _ _ (by first | exact aa (Qa0 _ _ _) (dK _ _) | exact aa (dK _ _) (Qa0 _ _ _)) (fun hHeld3=>?_);clear hK K9;(try go_frame);have HG8:QH (Y.grownBy ((Y.alloc (.cells (sdc ⟨(j:Int)+1,(k:Int),q⟩).toArray 64)).drew) (Value.slice q1 m c1).ownBlock):=aa (Qa0 _ _ _) (dK _ _);have HO8:QH (((Y.alloc (.cells (sdc ⟨(j:Int)+1,(k:Int),q⟩).toArray 64)).drew).ownsRow w1.heap.size 64 10 (.slice q1 m c1) m (sdR.cs E)):=aC (aC HO.o QG) (ai _);have HS8:QH (Src ((Y.alloc (.cells (sdc ⟨(j:Int)+1,(k:Int),q⟩).toArray 64)).drew) (.slice (some ⟨Y.heap.size,0,none⟩) 1 1) 1 10 (sdc ⟨(j:Int)+1,(k:Int),q⟩)):=Src.keep (Df Y _) (ai _);have HL8:QH (w1.heap.size≤((Y.alloc (.cells (sdc ⟨(j:Int)+1,(k:Int),q⟩).toArray 64)).drew).heap.size):=Ql HLn.o.2.2 (Qa0 Y _ none).size;refine QR 13 rfl (fun K9 hK=>?_);refine jM (.tmp 72) (.tmp 84) 30 rfl w1.heap.size 64 i0 _ 10 56 underlying30 hi hz0 hz1 hz2 rfl (by decide) (.slice q1 m c1) (m) (sdR.cs E) rfl (HO8.o) (.slice (some ⟨Y.heap.size,0,none⟩) 1 1) (1) (sdc ⟨(j:Int)+1,(k:Int),q⟩) rfl (HS8.o) (fx _) (HLn.o.1) (HLn.o.2.1) (HL8.o) ?_;intro v' w7 o7 g7 l7;obtain⟨w9,hw9⟩:=Qe (w7);subst hw9;obtain⟨v9,hv9⟩:=Qe (v');subst hv9;have HO9:QH _:=o7;have HG9:QH (Y.grownBy w9 (Value.slice q1 m c1).ownBlock):=aa HG8.o g7;clear o7 g7 l7;refine hK.out _ _ (HG9.o) (fun hHeld3=>?_);clear hK K9;(try go_frame);refine QZ 14 rfl ?_;go_frame;refine QD ?_
        have HF:QH (m+1=(efI D kk ((j:Int)+1) i ps (k+1)).length∧aV w9 w1.heap.size v9 (efI D kk ((j:Int)+1) i ps (k+1))∧w1.grownBy w9 none∧CdK w9 nc h (.slice (some ⟨gp,op,none⟩) ps.length cu)∧bJ w9 U.heap.size (.slice (some ⟨gp,op,none⟩) ps.length cu) ps∧bm w9 w.heap.size (.slice (some ⟨gl,0,none⟩) R.length cl) (R.map Rw.nu)):=by
         rw[HN.o,←HE.o.1];refine⟨by rw[Qa,←HE.o.2.1];rfl,aB.more HO9.o HE.o.2.1,ak HY.o.2.2.1 HG9.o (fun y e=>(Qa5 HO.o y e).1),?_,?_,?_⟩
         ·exact ag HG9.o HY.o.2.2.2.1 hneC
         ·exact Qav HY.o.2.2.2.2.1 HG9.o (Or.inr (fun z=>hneP (by rw[←z];rfl)))
         ·exact Qav HY.o.2.2.2.2.2 HG9.o (Or.inr (fun z=>hneL (by rw[←z];rfl)))
        obtain⟨pv,kv,ev9,-⟩:=bZ HO9.o;subst ev9;clear hneL hneP hneC cl0 p0 p1 p2 p3 p4 p5 p6 p7 hHeld;go_wp2_with fail;go_roundw
        case rel=>exact⟨k+1,m+1,pv,kv,Hk.o.1,by first | rfl | (rw[hwm];rfl) | go_num,rfl,HF.o⟩
        case measure=>first | exact HMk.o | (rw[hwm];exact HMk.o)
       ·have dl:(ly == kk)=false:=(by simpa using wl);have HN:QH (efI D kk ((j:Int)+1) i ps (k+1)=efI D kk ((j:Int)+1) i ps k):=DU Hk.o.2 (fun z=>wl (by rw[Hly.o];exact z.2));clear wl;go_wp2_with fail;refine(CL Y).mono ?_;rintro e4 w4 ⟨rfl,h4⟩;obtain rfl:Y=w4:=h4.symm;clear CL p0 p1 p2 p3 p4 p5 p6 p7;go_wp2_with fail;go_roundw
        case rel=>exact⟨k+1,m,q1,c1,Hk.o.1,by first | rfl | (rw[hwm];rfl) | go_num,rfl,by rw[HN.o];exact HY.o⟩
        case measure=>first | exact HMk.o | (rw[hwm];exact HMk.o)
      ·have d5:(q.wn == 5)=false:=(by simpa using w5);have HN:QH (efI D kk ((j:Int)+1) i ps (k+1)=efI D kk ((j:Int)+1) i ps k):=DU Hk.o.2 (fun z=>w5 z.1);clear w5 CL;go_wp2_with fail;go_roundw
       case rel=>exact⟨k+1,m,q1,c1,Hk.o.1,by first | rfl | (rw[hwm];rfl) | go_num,rfl,by rw[HN.o];exact HY.o⟩
       case measure=>first | exact HMk.o | (rw[hwm];exact HMk.o)
     ·obtain rfl:k=ps.length:=Qag hk' (Qac hk);have k1:¬(ps.length:Int)<(ps.length:Int):=Qb3 _;clear hk' hk;go_wp2_with fail;go_roundw
      case rel=>exact⟨i+1,m,q1,c1,Hi.o.1,by first | rfl | (rw[hwk];rfl) | go_num,rfl,by rw[Hps.o.2,←HD.o.1];exact HY.o.1,by rw[Hps.o.2,←HD.o.1];exact HY.o.2.1,HY.o.2.2.1⟩
      case measure=>first | exact HM.o | (rw[hwk];exact HM.o)
  ·obtain rfl:i=R.length:=Qag hi' (Qac hi2);have i1:¬(R.length:Int)<(R.length:Int):=Qb3 _;have HF:QH (aV U w.heap.size (.slice q0 m0 c0) ((dI R (ay R F) kk).map Se.s)∧w.grownBy U none):=⟨bj HQ.o.2.1 H1.o.2.size,aa H1.o.2 HQ.o.2.2⟩
   clear hi' hi2 HQ;go_wp2_with fail;go_ret;exact⟨_,rfl,HF.o.1,HF.o.2⟩
