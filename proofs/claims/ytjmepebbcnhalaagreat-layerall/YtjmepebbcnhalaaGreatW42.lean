import Derived.Test.YtjmepebbcnhalaaGreatW41
import Derived.Test.YtjmepebbcnhalaaGreatWLyY
import Derived.Test.YtjmepebbcnhalaaGreatW0
namespace Go.Proofs.YtjmepebbcnhalaaGreat
set_option maxRecDepth 100000
set_option maxHeartbeats 4000000
open Go.RowKit Go.Shelf
theorem ls {r n:Int} {cd:Int→Hd×List Pt} {ts:List Th} {F:List Fe} {S:List Sd} (h:lkE r n cd ts F []≠0):lkE r n cd ts F S=lkE r n cd ts F []:=by
 by_cases hr:r=0
 ·subst hr
  cases q:bi n cd ts F with
  | none=>rw[jG q,jG q]
  | some R=>rw[eI q] at h;exact absurd rfl h
 ·rw[mg hr,mg hr]
theorem dO {R:List Rw} {s:Sd} {d:Se} (h:bj R s=some d):d.s=s∧d.ro<R.length∧(R.getD d.ro Rw.none).nu=s.th:=by
 unfold bj at h
 cases q:eO R s.th with
 | none=>rw[q] at h;cases h
 | some i =>
  rw[q] at h
  simp only at h
  split at h
  ·cases h
   unfold eO at q
   rw[List.findIdx?_eq_some_iff_getElem] at q
   obtain⟨h1,h2,-⟩:=q
   refine⟨rfl,h1,?_⟩
   rw[aC h1]
   simpa using h2
  ·cases h
theorem jN {R:List Rw} {s:Sd} {d:Se} (h:bj R s=some d):aN R [s] []=some [d]:=by
 unfold aN
 rw[h]
 rfl
theorem j6 {R:List Rw} {s:Sd} (h:bj R s=none):aN R [s] []=none:=by
 unfold aN
 rw[h]
theorem sU (ok:Nat→Prop) (r:Nat) (v:Value) (p:Pl) (gs:List Ent) (vt vf:Value) (ts:List Th) (F:List Fe) (s:Sd) (w:World) (B:RD ok w r v p gs) (A:thR.At w vt ts) (AF:feR.At w vf F) (hr:TrI F):Calls Tryz.prog 74 #[.pointer (some ⟨r,0,none⟩),vt,vf,sdv s] w (gJ w (bG p ts.length) (gs.length:Int) (atC p gs) ts F s):=by
 obtain⟨pt,ct,rfl⟩:=A.form
 obtain⟨pf,cf,rfl⟩:=AF.form
 obtain⟨V,hV⟩:∃ V,V=w.alloc (.cells #[.int .i64 s.th,.int .i64 s.pl,.int .u8 s.wh.wn,.int .u8 s.wh.vb,.int .u8 s.wh.wm,.int .i64 s.wh.ct,.int .u8 s.wh.su,.int .u8 s.wh.tr,.int .u8 s.wh.mr,.string s.wh.nm] 64):=⟨_,rfl⟩
 have HV:Hid (SdB V w.heap.size s∧w.grownBy V none∧RD ok V r v p gs∧thR.At V (.slice pt ts.length ct) ts∧feR.At V (.slice pf F.length cf) F):=by
  have gr:w.grownBy V none:=by rw[hV];exact World.grownBy_alloc _ _ none
  exact⟨by rw[hV];exact ak _ _ _,gr,B.keep gr,A.keep gr,AF.keep gr⟩
 have C1:=fQ ok r v p gs _ _ ts F V HV.out.2.2.1 HV.out.2.2.2.1 HV.out.2.2.2.2 hr
 obtain⟨q,hq⟩:∃ q,q=lkE (bG p ts.length) (gs.length:Int) (atC p gs) ts F []:=⟨_,rfl⟩
 have Hq:Hid (q=lkE (bG p ts.length) (gs.length:Int) (atC p gs) ts F []):=hq
 rw[←hq] at C1
 unfold sdv
 clear B A AF hr hq
 go_enter Tryz.func74,Tryz.ntmps74
 go_upto_region 1 with fail
 rw[←hV]
 obtain⟨n0,hn0⟩:∃ n0,n0=w.heap.size:=⟨_,rfl⟩
 have Hn0:Hid (n0=w.heap.size):=hn0
 rw[←hn0] at HV ⊢
 clear hV hn0
 go_wp2_with fail
 refine C1.mono ?_
 rintro e1 w1 ⟨rfl,g1⟩
 have H1:Hid (SdB w1 n0 s∧w.grownBy w1 none∧RD ok w1 r v p gs∧thR.At w1 (.slice pt ts.length ct) ts∧feR.At w1 (.slice pf F.length cf) F):=⟨ai g1 HV.out.1 (by simp),aa HV.out.2.1 g1,HV.out.2.2.1.keep g1,HV.out.2.2.2.1.keep g1,HV.out.2.2.2.2.keep g1⟩
 clear C1 g1 HV
 by_cases h0:q=0
 ·obtain⟨r0,R,hR⟩:=ib (Hq.out.symm.trans h0)
  have hlen:ts.length≤2048:=Nat.le_of_not_lt fun z=>by
   unfold bG at r0
   rw[if_pos z] at r0
   cases r0
  have HT:Hid (bG p ts.length=0∧Tab (gs.length:Int) (atC p gs) ts F R∧ts.length≤2048):=⟨r0,Tab.of hR,hlen⟩
  have e0:(q != 0)=false:=by rw[h0];rfl
  have C2:=mJ ok r v p gs _ ts F R s w1 H1.out.2.2.1 H1.out.2.2.2.1 (Tab.of hR) hlen
  obtain⟨fd,hfd⟩:∃ fd,fd=bj R s:=⟨_,rfl⟩
  have Hfd:Hid (bj R s=fd):=hfd.symm
  rw[←hfd] at C2
  unfold sdv at C2
  obtain⟨s0,s1,s2,s3,s4,s5,s6,s7,s8,s9⟩:=bl H1.out.1
  clear h0 r0 hR hlen hfd
  go_wp2_with fail
  refine C2.mono ?_
  rintro e2 w2 ⟨rfl,g2⟩
  have H2:Hid (SdB w2 n0 s∧w.grownBy w2 none∧RD ok w2 r v p gs∧thR.At w2 (.slice pt ts.length ct) ts∧feR.At w2 (.slice pf F.length cf) F):=⟨ai g2 H1.out.1 (by simp),aa H1.out.2.1 g2,H1.out.2.2.1.keep g2,H1.out.2.2.2.1.keep g2,H1.out.2.2.2.2.keep g2⟩
  clear C2 g2 H1 s0 s1 s2 s3 s4 s5 s6 s7 s8 s9
  cases fd with
  | none =>
   rw[show (none:Option Se).isSome=false from rfl]
   go_wp2_with fail
   go_ret2
   have hl2:lkE (bG p ts.length) (gs.length:Int) (atC p gs) ts F [s]=2:=by rw[HT.out.1,gD HT.out.2.1.tab (j6 Hfd.out)]
   exact⟨none,0,0,by rw[hl2] <;> rfl,H2.out.2.1,fun _=>⟨rfl,rfl,rfl⟩,fun R' d' _ hR' hd'=>by rw[HT.out.2.1.tab] at hR';cases hR';rw[j6 Hfd.out] at hd';cases hd'⟩
  | some d =>
   obtain⟨f1,f2,f3⟩:=dO Hfd.out
   have C3:=ir ok r v p gs _ _ ts F R s d.ro w2 H2.out.2.2.1 H2.out.2.2.2.1 H2.out.2.2.2.2 HT.out.2.1 f2 f3 HT.out.2.2
   rw[show (⟨s,d.ro⟩:Se)=d from by rw[←f1]] at C3
   unfold sdv at C3
   obtain⟨s0,s1,s2,s3,s4,s5,s6,s7,s8,s9⟩:=bl H2.out.1
   clear f1 f2 f3
   rw[show (some d).isSome=true from rfl]
   go_wp2_with fail
   refine C3.mono ?_
   rintro e3 w3 ⟨v3,rfl,o3,g3⟩
   obtain⟨p3,c3,ev⟩:=aQ.form o3
   subst ev
   have H3:Hid (aQ w3 w.heap.size (.slice p3 (dA R (aM R (aq R F) d)).length c3) (dA R (aM R (aq R F) d))∧w.grownBy w3 none):=⟨aT o3 H2.out.2.1.size,aa H2.out.2.1 g3⟩
   clear C3 o3 g3 s0 s1 s2 s3 s4 s5 s6 s7 s8 s9
   go_wp2_with fail
   go_ret2
   have hl2:lkE (bG p ts.length) (gs.length:Int) (atC p gs) ts F [s]=0:=by rw[HT.out.1,eE HT.out.2.1.tab (jN Hfd.out)]
   exact⟨p3,_,c3,by rw[hl2] <;> rfl,H3.out.2,fun z=>absurd hl2 z,fun R' d' _ hR' hd'=>by
    rw[HT.out.2.1.tab] at hR'
    cases hR'
    rw[jN Hfd.out] at hd'
    cases hd'
    exact H3.out.1⟩
 ·have e0:(q != 0)=true:=by simpa using h0
  have HN:Hid (lkE (bG p ts.length) (gs.length:Int) (atC p gs) ts F [s]=q):=by show _=_;rw[ls (by rw[←Hq.out];exact h0),←Hq.out]
  have H0:Hid (q≠0):=h0
  clear h0
  go_wp2_with fail
  go_ret2
  exact⟨none,0,0,by rw[HN.out] <;> rfl,H1.out.2.1,fun _=>⟨rfl,rfl,rfl⟩,fun R' d' r0 hR' _=>by
   have h9:=Hq.out
   rw[r0,eI hR'] at h9
   exact absurd h9 H0.out⟩
theorem uF (ok:Nat→Prop) (r:Nat) (v:Value) (p:Pl) (gs:List Ent) (vt vf:Value) (ts:List Th) (F:List Fe) (s:Sd) (w:World) (B:RD ok w r v p gs) (A:thR.At w vt ts) (AF:feR.At w vf F) (hr:TrI F):Calls Tryz.prog 76 #[.pointer (some ⟨r,0,none⟩),vt,vf,sdv s] w (gK w (bG p ts.length) (gs.length:Int) (atC p gs) ts F s):=by
 obtain⟨pt,ct,rfl⟩:=A.form
 obtain⟨pf,cf,rfl⟩:=AF.form
 obtain⟨V,hV⟩:∃ V,V=w.alloc (.cells #[.int .i64 s.th,.int .i64 s.pl,.int .u8 s.wh.wn,.int .u8 s.wh.vb,.int .u8 s.wh.wm,.int .i64 s.wh.ct,.int .u8 s.wh.su,.int .u8 s.wh.tr,.int .u8 s.wh.mr,.string s.wh.nm] 64):=⟨_,rfl⟩
 have HV:Hid (SdB V w.heap.size s∧w.grownBy V none∧RD ok V r v p gs∧thR.At V (.slice pt ts.length ct) ts∧feR.At V (.slice pf F.length cf) F):=by
  have gr:w.grownBy V none:=by rw[hV];exact World.grownBy_alloc _ _ none
  exact⟨by rw[hV];exact ak _ _ _,gr,B.keep gr,A.keep gr,AF.keep gr⟩
 have C1:=fQ ok r v p gs _ _ ts F V HV.out.2.2.1 HV.out.2.2.2.1 HV.out.2.2.2.2 hr
 obtain⟨q,hq⟩:∃ q,q=lkE (bG p ts.length) (gs.length:Int) (atC p gs) ts F []:=⟨_,rfl⟩
 have Hq:Hid (q=lkE (bG p ts.length) (gs.length:Int) (atC p gs) ts F []):=hq
 rw[←hq] at C1
 unfold sdv
 clear B A AF hr hq
 go_enter Tryz.func76,Tryz.ntmps76
 go_upto_region 1 with fail
 rw[←hV]
 obtain⟨n0,hn0⟩:∃ n0,n0=w.heap.size:=⟨_,rfl⟩
 have Hn0:Hid (n0=w.heap.size):=hn0
 rw[←hn0] at HV ⊢
 clear hV hn0
 go_wp2_with fail
 refine C1.mono ?_
 rintro e1 w1 ⟨rfl,g1⟩
 have H1:Hid (SdB w1 n0 s∧w.grownBy w1 none∧RD ok w1 r v p gs∧thR.At w1 (.slice pt ts.length ct) ts∧feR.At w1 (.slice pf F.length cf) F):=⟨ai g1 HV.out.1 (by simp),aa HV.out.2.1 g1,HV.out.2.2.1.keep g1,HV.out.2.2.2.1.keep g1,HV.out.2.2.2.2.keep g1⟩
 clear C1 g1 HV
 by_cases h0:q=0
 ·obtain⟨r0,R,hR⟩:=ib (Hq.out.symm.trans h0)
  have hlen:ts.length≤2048:=Nat.le_of_not_lt fun z=>by
   unfold bG at r0
   rw[if_pos z] at r0
   cases r0
  have HT:Hid (bG p ts.length=0∧Tab (gs.length:Int) (atC p gs) ts F R∧ts.length≤2048):=⟨r0,Tab.of hR,hlen⟩
  have e0:(q != 0)=false:=by rw[h0];rfl
  have C2:=mJ ok r v p gs _ ts F R s w1 H1.out.2.2.1 H1.out.2.2.2.1 (Tab.of hR) hlen
  obtain⟨fd,hfd⟩:∃ fd,fd=bj R s:=⟨_,rfl⟩
  have Hfd:Hid (bj R s=fd):=hfd.symm
  rw[←hfd] at C2
  unfold sdv at C2
  obtain⟨s0,s1,s2,s3,s4,s5,s6,s7,s8,s9⟩:=bl H1.out.1
  clear h0 r0 hR hlen hfd
  go_wp2_with fail
  refine C2.mono ?_
  rintro e2 w2 ⟨rfl,g2⟩
  have H2:Hid (SdB w2 n0 s∧w.grownBy w2 none∧RD ok w2 r v p gs∧thR.At w2 (.slice pt ts.length ct) ts∧feR.At w2 (.slice pf F.length cf) F):=⟨ai g2 H1.out.1 (by simp),aa H1.out.2.1 g2,H1.out.2.2.1.keep g2,H1.out.2.2.2.1.keep g2,H1.out.2.2.2.2.keep g2⟩
  clear C2 g2 H1 s0 s1 s2 s3 s4 s5 s6 s7 s8 s9
  cases fd with
  | none =>
   rw[show (none:Option Se).isSome=false from rfl]
   go_wp2_with fail
   go_ret2
   have hl2:lkE (bG p ts.length) (gs.length:Int) (atC p gs) ts F [s]=2:=by rw[HT.out.1,gD HT.out.2.1.tab (j6 Hfd.out)]
   exact⟨none,0,0,by rw[hl2] <;> rfl,H2.out.2.1,fun _=>⟨rfl,rfl,rfl⟩,fun R' d' _ hR' hd'=>by rw[HT.out.2.1.tab] at hR';cases hR';rw[j6 Hfd.out] at hd';cases hd'⟩
  | some d =>
   obtain⟨f1,f2,f3⟩:=dO Hfd.out
   have C3:=jv ok r v p gs _ _ ts F R s d.ro w2 H2.out.2.2.1 H2.out.2.2.2.1 H2.out.2.2.2.2 HT.out.2.1 f2 f3 HT.out.2.2
   rw[show (⟨s,d.ro⟩:Se)=d from by rw[←f1]] at C3
   unfold sdv at C3
   obtain⟨s0,s1,s2,s3,s4,s5,s6,s7,s8,s9⟩:=bl H2.out.1
   clear f1 f2 f3
   rw[show (some d).isSome=true from rfl]
   go_wp2_with fail
   refine C3.mono ?_
   rintro e3 w3 ⟨v3,rfl,o3,g3⟩
   obtain⟨p3,c3,ev⟩:=aB.Own.form o3
   subst ev
   have H3:Hid (dt w3 w.heap.size (.slice p3 (cJ F R (aP R (aq R F) d)).length c3) (cJ F R (aP R (aq R F) d))∧w.grownBy w3 none):=⟨aT o3 H2.out.2.1.size,aa H2.out.2.1 g3⟩
   clear C3 o3 g3 s0 s1 s2 s3 s4 s5 s6 s7 s8 s9
   go_wp2_with fail
   go_ret2
   have hl2:lkE (bG p ts.length) (gs.length:Int) (atC p gs) ts F [s]=0:=by rw[HT.out.1,eE HT.out.2.1.tab (jN Hfd.out)]
   exact⟨p3,_,c3,by rw[hl2] <;> rfl,H3.out.2,fun z=>absurd hl2 z,fun R' d' _ hR' hd'=>by
    rw[HT.out.2.1.tab] at hR'
    cases hR'
    rw[jN Hfd.out] at hd'
    cases hd'
    exact H3.out.1⟩
 ·have e0:(q != 0)=true:=by simpa using h0
  have HN:Hid (lkE (bG p ts.length) (gs.length:Int) (atC p gs) ts F [s]=q):=by show _=_;rw[ls (by rw[←Hq.out];exact h0),←Hq.out]
  have H0:Hid (q≠0):=h0
  clear h0
  go_wp2_with fail
  go_ret2
  exact⟨none,0,0,by rw[HN.out] <;> rfl,H1.out.2.1,fun _=>⟨rfl,rfl,rfl⟩,fun R' d' r0 hR' _=>by
   have h9:=Hq.out
   rw[r0,eI hR'] at h9
   exact absurd h9 H0.out⟩
theorem Cs {n:Int} {cd:Int→Hd×List Pt} {ts:List Th} {fs:List Fe} {R:List Rw} (h:Tab n cd ts fs R) (F G:List Fe) (a:Se):dA R (aM R F a)=dA R (aM R G a)↔aM R F a=aM R G a:=by
 refine⟨fun e=>?_,fun e=>by rw[e]⟩
 have key:∀ i,i<R.length→di R F a i=di R G a i:=fun i hi=>by
  have one:∀ A B:List Fe,dA R (aM R A a)=dA R (aM R B a)→di R A a i=true→di R B a i=true:=fun A B e hb=>by
   have hm:(R.getD i Rw.none).nu∈dA R (aM R B a):=by rw[←e];exact jl.2 ⟨i,hi,hb,rfl⟩
   obtain⟨k,hk,hb',e'⟩:=jl.1 hm
   have:=jt h.nod hk hi e'
   subst this
   exact hb'
  rw[Bool.eq_iff_iff]
  exact⟨one F G e,one G F e.symm⟩
 unfold aM dD
 refine List.map_congr_left fun i hi=>key i (List.mem_range.1 hi)
theorem we {a b:List Int} {k:Nat} (ha:k<a.length) (hb:k<b.length) (h:a.take k=b.take k) (e:a.getD k 0=b.getD k 0):a.take (k+1)=b.take (k+1):=by
 rw[List.take_add_one,List.take_add_one,h,List.getElem?_eq_getElem ha,List.getElem?_eq_getElem hb,←aC (d:=(0:Int)) ha,←aC (d:=(0:Int)) hb,e]
def pfx (a b:List Int) (k:Nat):Prop:=a.take k=b.take k
theorem AO {a b:List Int} (h:pfx a b a.length) (hl:a.length=b.length):a=b:=by
 unfold pfx at h
 rwa [List.take_length,hl,List.take_length] at h
theorem wL (b1 b2:Nat) (v1 v2:Value) (a b:List Int) (w:World) (A:aQ w b1 v1 a) (B:aQ w b2 v2 b) (hl:a.length≤16):Calls Tryz.prog 211 #[v1,v2] w fun e w'=>e=.returned (.bool (decide (a=b)))∧w.grownBy w' none:=by
 obtain⟨p1,c1,rfl⟩:=aQ.form A
 obtain⟨p2,c2,rfl⟩:=aQ.form B
 have HA:Hid (aQ w b1 (.slice p1 a.length c1) a∧aQ w b2 (.slice p2 b.length c2) b∧a.length≤16):=⟨A,B,hl⟩
 clear A B hl
 go_enter Tryz.func211,Tryz.ntmps211
 by_cases hlen:a.length=b.length
 ·have en:((a.length:Int) != (b.length:Int))=false:=by rw[hlen];simp
  have HLn:Hid (a.length=b.length):=hlen
  clear hlen
  go_wp2_with fail
  go_loopw [5] (fun y wr=>∃ k:Nat,k≤a.length∧y=.int .i64 (k:Int)∧Hid (pfx a b k∧aQ wr b1 (.slice p1 a.length c1) a∧aQ wr b2 (.slice p2 b.length c2) b∧w.grownBy wr none)) (fun y _=>a.length - (intOf y).toNat)
  case atStart=>exact⟨0,Nat.zero_le _,rfl,rfl,HA.out.1,HA.out.2.1,ay _ _⟩
  case round =>
   obtain⟨k,hk',rfl,HX⟩:=hrel
   obtain⟨U,hU⟩:∃ U,U=wr:=⟨_,rfl⟩
   subst hU
   by_cases hk:k<a.length
   ·have k1:(k:Int)<(a.length:Int):=Int.ofNat_lt.2 hk
    have k2:(k:Int)<(b.length:Int):=by rw[←HLn.out];exact k1
    have hwk:=aW (k:=k) (Nat.le_trans (Nat.le_of_lt hk) (Nat.le_trans HA.out.2.2 (by decide)))
    have HM:Hid (a.length - (intOf (.int .i64 ((k:Int)+1))).toNat<a.length - (intOf (.int .i64 (k:Int))).toNat):=bQ hk
    have hkb:k<b.length:=by rw[←HLn.out];exact hk
    obtain⟨ga,ea,ca⟩:=ja HX.out.2.1 hk
    subst ea
    obtain⟨gb,eb,cb⟩:=ja HX.out.2.2.1 hkb
    subst eb
    obtain⟨x,hx⟩:∃ x,x=a.getD k 0:=⟨_,rfl⟩
    obtain⟨y,hy⟩:∃ y,y=b.getD k 0:=⟨_,rfl⟩
    have Hk:Hid (k<a.length∧k<b.length∧x=a.getD k 0∧y=b.getD k 0):=⟨hk,hkb,hx,hy⟩
    rw[←hx] at ca
    rw[←hy] at cb
    clear hk hk' hkb hx hy
    by_cases hxy:x=y
    ·have e1:(x != y)=false:=by rw[hxy];simp
     have HN:Hid (pfx a b (k+1)):=we Hk.out.1 Hk.out.2.1 HX.out.1 (by rw[←Hk.out.2.2.1,←Hk.out.2.2.2,hxy])
     clear hxy
     go_upto_region 6 with fail
     go_quiet (fail)
     go_wp2_with fail
     go_roundw
     case rel=>exact⟨k+1,Hk.out.1,by first | rfl | (rw[hwk];rfl) | go_num,HN.out,HX.out.2.1,HX.out.2.2.1,aa HX.out.2.2.2 (aD _ _ _)⟩
     case measure=>first | exact HM.out | (rw[hwk];exact HM.out)
    ·have e1:(x != y)=true:=by simpa using hxy
     have HN:Hid (decide (a=b)=false):=decide_eq_false fun e=>by
      apply hxy
      rw[Hk.out.2.2.1,Hk.out.2.2.2,e]
     clear hxy
     go_upto_region 6 with fail
     go_quiet (fail)
     go_wp2_with fail
     go_ret
     exact⟨by rw[HN.out] <;> rfl,aa HX.out.2.2.2 (aD _ _ _)⟩
   ·obtain rfl:k=a.length:=Nat.le_antisymm hk' (Nat.le_of_not_lt hk)
    have k1:¬(a.length:Int)<(a.length:Int):=Int.lt_irrefl _
    have HN:Hid (decide (a=b)=true):=decide_eq_true (AO HX.out.1 HLn.out)
    clear hk hk'
    go_wp2_with fail
    go_ret
    exact⟨by rw[HN.out] <;> rfl,HX.out.2.2.2⟩
 ·have en:((a.length:Int) != (b.length:Int))=true:=by simpa using fun e:(a.length:Int)=(b.length:Int)=>hlen (by omega)
  have HN:Hid (decide (a=b)=false):=decide_eq_false fun e=>hlen (by rw[e])
  clear hlen
  go_wp2_with fail
  go_ret
  exact⟨by rw[HN.out] <;> rfl,ay _ _⟩
theorem Tab.turned {n:Int} {cd:Int→Hd×List Pt} {ts:List Th} {F:List Fe} {R:List Rw} (h:Tab n cd ts F R) {e:Se} (he:e.ro<R.length):Tab n cd ts (cJ F R (aP R (aq R F) e)) R∧aq R (cJ F R (aP R (aq R F) e))=aP R (aq R F) e:=by
 have hl:(aP R (aq R F) e).length=R.length:=by unfold aP;rw[List.length_map,List.length_range,eo]
 exact⟨h.back hl (nh (by rw[eo];exact he) h.good),h.pick hl⟩
theorem ie (ok:Nat→Prop) (r:Nat) (v:Value) (p:Pl) (gs:List Ent) (vt vf:Value) (ts:List Th) (F:List Fe) (R:List Rw) (s:Sd) (ro:Nat) (x:Sd) (rx:Nat) (w:World) (B:RD ok w r v p gs) (A:thR.At w vt ts) (AF:feR.At w vf F) (hT:Tab (gs.length:Int) (atC p gs) ts F R) (hr:ro<R.length) (hs:(R.getD ro Rw.none).nu=s.th) (hrx:rx<R.length) (hx:(R.getD rx Rw.none).nu=x.th) (hl:ts.length≤2048):Calls Tryz.prog 141 #[.pointer (some ⟨r,0,none⟩),vt,vf,sdv s,sdv x] w fun e w'=>e=.returned (.bool (eX R (aq R F) ⟨s,ro⟩ ⟨x,rx⟩))∧w.grownBy w' none:=by
 obtain⟨pt,ct,rfl⟩:=A.form
 obtain⟨pf,cf,rfl⟩:=AF.form
 obtain⟨V,hV⟩:∃ V,V=(w.alloc (.cells #[.int .i64 s.th,.int .i64 s.pl,.int .u8 s.wh.wn,.int .u8 s.wh.vb,.int .u8 s.wh.wm,.int .i64 s.wh.ct,.int .u8 s.wh.su,.int .u8 s.wh.tr,.int .u8 s.wh.mr,.string s.wh.nm] 64)).alloc (.cells #[.int .i64 x.th,.int .i64 x.pl,.int .u8 x.wh.wn,.int .u8 x.wh.vb,.int .u8 x.wh.wm,.int .i64 x.wh.ct,.int .u8 x.wh.su,.int .u8 x.wh.tr,.int .u8 x.wh.mr,.string x.wh.nm] 64):=⟨_,rfl⟩
 have HV:Hid (SdB V w.heap.size s∧SdB V (w.heap.size+1) x∧w.grownBy V none∧RD ok V r v p gs∧thR.At V (.slice pt ts.length ct) ts∧feR.At V (.slice pf F.length cf) F):=by
  have gr:w.grownBy V none:=by rw[hV];exact am (World.grownBy_alloc _ _ none) _
  exact⟨by rw[hV];exact ai (World.grownBy_alloc _ _ none) (ak w _ _) (by simp),by rw[hV];exact aL _ _ _ _,gr,B.keep gr,A.keep gr,AF.keep gr⟩
 have HT:Hid (Tab (gs.length:Int) (atC p gs) ts F R∧ro<R.length∧(R.getD ro Rw.none).nu=s.th∧rx<R.length∧(R.getD rx Rw.none).nu=x.th∧ts.length≤2048):=⟨hT,hr,hs,hrx,hx,hl⟩
 have C1:=ir ok r v p gs _ _ ts F R s ro V.drew (HV.out.2.2.2.1.keep (ag _)) (HV.out.2.2.2.2.1.keep (ag _)) (HV.out.2.2.2.2.2.keep (ag _)) hT hr hs hl
 have C2:Hid (∀ W,V.grownBy W none→Calls Tryz.prog 72 #[.pointer (some ⟨r,0,none⟩),.slice pt ts.length ct,.slice pf F.length cf,.agg #[.int .i64 x.th,.int .i64 x.pl,.int .u8 x.wh.wn,.int .u8 x.wh.vb,.int .u8 x.wh.wm,.int .i64 x.wh.ct,.int .u8 x.wh.su,.int .u8 x.wh.tr,.int .u8 x.wh.mr,.string x.wh.nm]] W fun e w'=>∃ v,e=.returned v∧dt w' W.heap.size v (cJ F R (aP R (aq R F) ⟨x,rx⟩))∧W.grownBy w' none):=fun W g=>jv ok r v p gs _ _ ts F R x rx W (HV.out.2.2.2.1.keep g) (HV.out.2.2.2.2.1.keep g) (HV.out.2.2.2.2.2.keep g) hT hrx hx hl
 unfold sdv at C1
 unfold sdv
 clear B A AF hT hr hs hrx hx hl
 go_enter Tryz.func141,Tryz.ntmps141
 go_upto_region 1 with fail
 rw[←hV]
 obtain⟨n0,hn0⟩:∃ n0,n0=w.heap.size:=⟨_,rfl⟩
 have Hn0:Hid (n0=w.heap.size):=hn0
 rw[←hn0] at HV ⊢
 obtain⟨n1,hn1⟩:∃ n1,n1=n0+1:=⟨_,rfl⟩
 rw[←hn1] at HV ⊢
 clear hV hn0 hn1
 obtain⟨s0,s1,s2,s3,s4,s5,s6,s7,s8,s9⟩:=bl HV.out.1
 obtain⟨o0,o1,o2,o3,o4,o5,o6,o7,o8,o9⟩:=bl HV.out.2.1
 refine wp_region_held_drew (S:=fun w'=>V.grownBy w' none) (by kernel_rfl) (ag _) (fun hHeld=>?_)
 refine QZ 0 rfl ?_
 go_frame
 refine QZ 1 rfl ?_
 go_frame
 refine QZ 2 rfl ?_
 go_frame
 refine QT 3 rfl (by intro w0 hSw;have s0:=hSw.cell s0 (by simp);have s1:=hSw.cell s1 (by simp);have s2:=hSw.cell s2 (by simp);have s3:=hSw.cell s3 (by simp);have s4:=hSw.cell s4 (by simp);have s5:=hSw.cell s5 (by simp);have s6:=hSw.cell s6 (by simp);have s7:=hSw.cell s7 (by simp);have s8:=hSw.cell s8 (by simp);have s9:=hSw.cell s9 (by simp);go_simp;try with_reducible rfl) ?_
 go_frame
 refine QZ 5 rfl ?_
 go_frame
 refine QZ 6 rfl ?_
 go_frame
 refine QZ 7 rfl ?_
 go_frame
 refine QZ 8 rfl ?_
 go_frame
 refine QZ 9 rfl ?_
 go_frame
 refine QT 10 rfl (by intro w0 hSw;have o0:=hSw.cell o0 (by simp);have o1:=hSw.cell o1 (by simp);have o2:=hSw.cell o2 (by simp);have o3:=hSw.cell o3 (by simp);have o4:=hSw.cell o4 (by simp);have o5:=hSw.cell o5 (by simp);have o6:=hSw.cell o6 (by simp);have o7:=hSw.cell o7 (by simp);have o8:=hSw.cell o8 (by simp);have o9:=hSw.cell o9 (by simp);go_simp;try with_reducible rfl) ?_
 go_frame
 refine QT 12 rfl (by intro w0 hSw;have s0:=hSw.cell s0 (by simp);have s1:=hSw.cell s1 (by simp);have s2:=hSw.cell s2 (by simp);have s3:=hSw.cell s3 (by simp);have s4:=hSw.cell s4 (by simp);have s5:=hSw.cell s5 (by simp);have s6:=hSw.cell s6 (by simp);have s7:=hSw.cell s7 (by simp);have s8:=hSw.cell s8 (by simp);have s9:=hSw.cell s9 (by simp);go_simp;try with_reducible rfl) ?_
 go_frame
 clear s0 s1 s2 s3 s4 s5 s6 s7 s8 s9 o0 o1 o2 o3 o4 o5 o6 o7 o8 o9
 refine QR 4 rfl (fun K hK=>?_)
 go_simp
 go_at_call 148
 refine(C1).mono ?_
 rintro e2 w2 ⟨v2,rfl,a2,g2⟩
 obtain⟨p2,c2,ev⟩:=aQ.form a2
 subst ev
 have H2:Hid (V.grownBy w2 none∧aQ w2 V.drew.heap.size (.slice p2 (dA R (aM R (aq R F) ⟨s,ro⟩)).length c2) (dA R (aM R (aq R F) ⟨s,ro⟩))):=⟨aa (ag _) g2,a2⟩
 clear g2 a2 C1
 obtain⟨la,hla⟩:∃ la,la=dA R (aM R (aq R F) ⟨s,ro⟩):=⟨_,rfl⟩
 have Hla:Hid (la=dA R (aM R (aq R F) ⟨s,ro⟩)):=hla
 rw[←hla] at H2 ⊢
 clear hla
 refine hK.out _ _ (H2.out.1) (fun hHeld2=>?_)
 clear hK K
 (try go_frame)
 refine QR 11 rfl (fun K hK=>?_)
 go_simp
 go_at_call 72
 refine(C2.out _ H2.out.1).mono ?_
 rintro e3 w3 ⟨v3,rfl,a3,g3⟩
 obtain⟨p3,c3,ev⟩:=aB.Own.form a3
 subst ev
 have HG3:Hid (V.grownBy w3 none∧aQ w3 V.drew.heap.size (.slice p2 la.length c2) la):=⟨aa H2.out.1 g3,ar H2.out.2 g3⟩
 obtain⟨tb,pk⟩:=HT.out.1.turned (e:=⟨x,rx⟩) HT.out.2.2.2.1
 have C3:=ir ok r v p gs _ _ ts _ R s ro w3 (HV.out.2.2.2.1.keep HG3.out.1) (HV.out.2.2.2.2.1.keep HG3.out.1) (aB.Own.at a3) tb HT.out.2.1 HT.out.2.2.1 HT.out.2.2.2.2.2
 rw[pk] at C3
 unfold sdv at C3
 clear g3 a3 C2 H2 tb pk
 refine hK.out _ _ (HG3.out.1) (fun hHeld2=>?_)
 clear hK K
 (try go_frame)
 refine QR 13 rfl (fun K hK=>?_)
 go_simp
 go_at_call 148
 refine(C3).mono ?_
 rintro e4 w4 ⟨v4,rfl,a4,g4⟩
 obtain⟨p4,c4,ev⟩:=aQ.form a4
 subst ev
 have H4:Hid (V.grownBy w4 none):=aa HG3.out.1 g4
 have C4:=wL _ _ _ _ la _ w4 (ar HG3.out.2 g4) a4 (by rw[Hla.out];exact Nat.le_trans (iO _ _ _) HT.out.1.few)
 obtain⟨lb,hlb⟩:∃ lb,lb=dA R (aM R (aP R (aq R F) ⟨x,rx⟩) ⟨s,ro⟩):=⟨_,rfl⟩
 have HD:Hid ((!decide (la=lb))=eX R (aq R F) ⟨s,ro⟩ ⟨x,rx⟩):=by
  show _=_
  unfold eX
  rw[Hla.out,hlb]
  congr 1
  exact decide_eq_decide.2 (Cs HT.out.1 _ _ _)
 rw[←hlb] at C4 ⊢
 clear g4 a4 C3 HG3 hlb
 refine hK.out _ _ (H4.out) (fun hHeld2=>?_)
 clear hK K
 (try go_frame)
 refine QR 14 rfl (fun K hK=>?_)
 go_simp
 go_at_call 211
 refine(C4).mono ?_
 rintro e5 w5 ⟨rfl,g5⟩
 have H5:Hid (V.grownBy w5 none):=aa H4.out g5
 clear g5 C4 H4
 refine hK.out _ _ (H5.out) (fun hHeld2=>?_)
 clear hK K
 (try go_frame)
 refine QZ 15 rfl ?_
 go_frame
 refine QZ 16 rfl ?_
 go_frame
 refine QD ?_
 go_wp2_with fail
 go_ret
 exact⟨by rw[HD.out] <;> rfl,aa HV.out.2.2.1 H5.out⟩
def ahB (a b c d:Int):Bool:=decide (a<b) || (decide (a=b) && decide (c<d))
theorem yh (vt:Value) (ts:List Th) (s x:Sd) (z y:Nat) (t u:Th) (w:World) (A:thR.At w vt ts) (hz:s.th=(z:Int)+1) (ht:ts[z]?=some t) (hy:x.th=(y:Int)+1) (hu:ts[y]?=some u) (hl:ts.length≤2048):Calls Tryz.prog 140 #[vt,sdv s,sdv x] w fun e w'=>e=.returned (.bool (ahB t.stamp u.stamp s.pl x.pl))∧w.grownBy w' none:=by
 obtain⟨pt,ct,rfl⟩:=A.form
 obtain⟨V,hV⟩:∃ V,V=(w.alloc (.cells #[.int .i64 s.th,.int .i64 s.pl,.int .u8 s.wh.wn,.int .u8 s.wh.vb,.int .u8 s.wh.wm,.int .i64 s.wh.ct,.int .u8 s.wh.su,.int .u8 s.wh.tr,.int .u8 s.wh.mr,.string s.wh.nm] 64)).alloc (.cells #[.int .i64 x.th,.int .i64 x.pl,.int .u8 x.wh.wn,.int .u8 x.wh.vb,.int .u8 x.wh.wm,.int .i64 x.wh.ct,.int .u8 x.wh.su,.int .u8 x.wh.tr,.int .u8 x.wh.mr,.string x.wh.nm] 64):=⟨_,rfl⟩
 have HV:Hid (SdB V w.heap.size s∧SdB V (w.heap.size+1) x∧w.grownBy V none∧thR.At V (.slice pt ts.length ct) ts):=by
  have gr:w.grownBy V none:=by rw[hV];exact am (World.grownBy_alloc _ _ none) _
  exact⟨by rw[hV];exact ai (World.grownBy_alloc _ _ none) (ak w _ _) (by simp),by rw[hV];exact aL _ _ _ _,gr,A.keep gr⟩
 have hzl:z<ts.length:=(List.getElem?_eq_some_iff.1 ht).1
 have hyl:y<ts.length:=(List.getElem?_eq_some_iff.1 hu).1
 obtain⟨wz,wz2,z1⟩:=wrS hzl hl
 obtain⟨wy,wy2,y1⟩:=wrS hyl hl
 obtain⟨gT,oT,cT,eT,-⟩:=dw HV.out.2.2.2 hzl
 injection eT with eT eT2 eT3
 clear eT2 eT3
 subst eT
 obtain⟨-,-,-,t3,-⟩:=dh (j9 HV.out.2.2.2 ht)
 obtain⟨-,-,-,u3,-⟩:=dh (j9 HV.out.2.2.2 hu)
 obtain⟨a,ha⟩:∃ a,a=t.stamp:=⟨_,rfl⟩
 obtain⟨b,hb⟩:∃ b,b=u.stamp:=⟨_,rfl⟩
 rw[←ha] at t3 ⊢
 rw[←hb] at u3 ⊢
 clear ha hb
 have Hz:Hid (s.th=(z:Int)+1∧x.th=(y:Int)+1):=⟨hz,hy⟩
 unfold sdv
 clear A hl ht hu hzl hyl hz hy
 go_enter Tryz.func140,Tryz.ntmps140
 go_upto_region 1 with fail
 rw[←hV]
 obtain⟨n0,hn0⟩:∃ n0,n0=w.heap.size:=⟨_,rfl⟩
 rw[←hn0] at HV ⊢
 obtain⟨n1,hn1⟩:∃ n1,n1=n0+1:=⟨_,rfl⟩
 rw[←hn1] at HV ⊢
 clear hV hn0 hn1
 obtain⟨s0,s1,-,-,-,-,-,-,-,-⟩:=bl HV.out.1
 obtain⟨o0,o1,-,-,-,-,-,-,-,-⟩:=bl HV.out.2.1
 rw[Hz.out.1] at s0
 rw[Hz.out.2] at o0
 have HG:Hid (w.grownBy V none):=HV.out.2.2.1
 clear HV Hz
 by_cases h1:a<b
 ·have d1:decide (a<b)=true:=decide_eq_true h1
  have HN:Hid (ahB a b s.pl x.pl=true):=by show _=_;unfold ahB;rw[d1];rfl
  clear h1
  go_wp2_with fail
  go_ret
  exact⟨by rw[HN.out] <;> rfl,HG.out⟩
 ·have d1:decide (a<b)=false:=decide_eq_false h1
  by_cases h2:a=b
  ·have d2:(a == b)=true:=by rw[h2];exact beq_self_eq_true _
   by_cases h3:s.pl<x.pl
   ·have d3:decide (s.pl<x.pl)=true:=decide_eq_true h3
    have HN:Hid (ahB a b s.pl x.pl=true):=by show _=_;unfold ahB;rw[d1,d3,decide_eq_true h2];rfl
    clear h1 h2 h3
    go_wp2_with fail
    go_ret
    exact⟨by rw[HN.out] <;> rfl,HG.out⟩
   ·have d3:decide (s.pl<x.pl)=false:=decide_eq_false h3
    have HN:Hid (ahB a b s.pl x.pl=false):=by show _=_;unfold ahB;rw[d1,d3];simp
    clear h1 h2 h3
    go_wp2_with fail
    go_ret
    exact⟨by rw[HN.out] <;> rfl,HG.out⟩
  ·have d2:(a == b)=false:=by simpa using h2
   have HN:Hid (ahB a b s.pl x.pl=false):=by show _=_;unfold ahB;rw[d1,decide_eq_false h2];rfl
   clear h1 h2
   go_wp2_with fail
   go_ret
   exact⟨by rw[HN.out] <;> rfl,HG.out⟩
theorem mP:∀ (n:Nat) (l:List Nat),l.Nodup→(∀ x∈l,x<n)→l.length≤n
 | 0,[],_,_=>Nat.le_refl _
 | 0,x :: _,_,h=>absurd (h x (List.mem_cons_self ..)) (Nat.not_lt_zero _)
 | n+1,l,hn,h=>by
  by_cases hm:n∈l
  ·have ih:=mP n (l.erase n) (hn.erase n) fun x hx=>by
    have h1:=h x (List.mem_of_mem_erase hx)
    have h2:x≠n:=fun e=>by subst e;exact(List.Nodup.mem_erase_iff hn).1 hx |>.1 rfl
    omega
   rw[List.length_erase_of_mem hm] at ih
   omega
  ·exact Nat.le_succ_of_le (mP n l hn fun x hx=>by
    have h1:=h x hx
    have h2:x≠n:=fun e=>hm (by rw[←e];exact hx)
    omega)
theorem xB {e:Se} {L:List Se} (h:dz e L=true) {o:Se} (ho:o∈L):dn e o=false:=by
 unfold dz at h
 rw[List.all_eq_true] at h
 have:=h o ho
 simpa using this
theorem fm {R:List Rw}:∀ (S:List Sd) (acc L:List Se),(acc.Pairwise fun a b=>dn b a=false)→(∀ e∈acc,bj R e.s=some e)→aN R S acc=some L→(L.Pairwise fun a b=>dn b a=false)∧∀ e∈L,bj R e.s=some e
 | [],acc,L,h1,h2,h=>by
  have:acc=L:=by simpa [aN] using h
  subst this
  exact⟨h1,h2⟩
 | s :: S,acc,L,h1,h2,h=>by
  unfold aN at h
  cases q:bj R s with
  | none=>rw[q] at h;cases h
  | some e =>
   rw[q] at h
   simp only at h
   by_cases hj:dz e acc=true
   ·rw[if_pos hj] at h
    refine fm S _ L ?_ ?_ h
    ·rw[List.pairwise_append]
     refine⟨h1,List.pairwise_singleton _ _,fun a ha b hb=>?_⟩
     rw[List.mem_singleton] at hb
     subst hb
     exact xB hj ha
    ·intro x hx
     rw[List.mem_append,List.mem_singleton] at hx
     rcases hx with hx | rfl
     ·exact h2 x hx
     ·rw[(dO q).1];exact q
   ·rw[if_neg hj] at h;cases h
theorem AG {R:List Rw} {s:Sd} {d:Se} (h:bj R s=some d):0≤s.pl∧s.pl<((R.getD d.ro Rw.none).ps.length:Int):=by
 unfold bj at h
 cases q:eO R s.th with
 | none=>rw[q] at h;cases h
 | some i =>
  rw[q] at h
  simp only at h
  split at h
  ·rename_i hh
   cases h
   unfold cQ at hh
   simp only[Bool.and_eq_true,decide_eq_true_eq] at hh
   exact⟨hh.1.1,hh.1.2⟩
  ·cases h
theorem Tab.ps4 {n:Int} {cd:Int→Hd×List Pt} {ts:List Th} {fs:List Fe} {R:List Rw} (h:Tab n cd ts fs R) (hc:∀ c,(cd c).2.length≤4) (i:Nat):(R.getD i Rw.none).ps.length≤4:=by
 by_cases hi:i<R.length
 ·rw[aC hi]
  obtain⟨j,t,f,_,_,c⟩:=iC _ _ _ (h.perm.mem_iff.1 (List.getElem_mem hi))
  rw[c]
  exact hc _
 ·rw[List.getD_eq_getElem?_getD,List.getElem?_eq_none (by omega)]
  exact Nat.zero_le _
theorem Tab.list64 {n:Int} {cd:Int→Hd×List Pt} {ts:List Th} {fs:List Fe} {R:List Rw} (h:Tab n cd ts fs R) (hc:∀ c,(cd c).2.length≤4) {S:List Sd} {L:List Se} (q:aN R S []=some L):S.length≤64:=by
 have hlen:=gN S [] L q
 obtain⟨hp,hf⟩:=fm S [] L List.Pairwise.nil (fun e he=>absurd he (by simp)) q
 have h4:∀ e∈L,e.ro<16∧0≤e.s.pl∧e.s.pl<4∧(R.getD e.ro Rw.none).nu=e.s.th:=fun e he=>by
  have a:=dO (hf e he)
  have b:=AG (hf e he)
  have c:=h.ps4 hc e.ro
  have d:=h.few
  exact⟨by omega,b.1,by omega,a.2.2⟩
 have hnod:(L.map fun e=>e.ro*4+e.s.pl.toNat).Nodup:=by
  show List.Pairwise _ _
  rw[List.pairwise_map]
  refine List.Pairwise.imp_of_mem ?_ hp
  intro a b ha hb hcl e
  obtain⟨a1,a2,a3,a4⟩:=h4 a ha
  obtain⟨b1,b2,b3,b4⟩:=h4 b hb
  have e1:a.ro=b.ro:=by omega
  have e2:b.s.pl=a.s.pl:=by omega
  have e3:b.s.th=a.s.th:=by rw[←a4,←b4,e1]
  rw[iU e3 e2] at hcl
  cases hcl
 have:=mP 64 _ hnod fun x hx=>by
  obtain⟨e,he,rfl⟩:=List.mem_map.1 hx
  obtain⟨a1,a2,a3,-⟩:=h4 e he
  show e.ro*4+e.s.pl.toNat<64
  omega
 rw[List.length_map] at this
 simp only[List.length_nil] at hlen
 omega
def LsU (R:List Rw) (S:List Sd) (k:Nat):Prop:=∃ L,rE R S k L∧L.map Se.s=S.take k∧∀ e∈L,lay e.s.wh.vb=lay (S.getD 0 Sd.none).wh.vb
theorem LsU.start (R:List Rw) (S:List Sd):LsU R S 0:=⟨[],rfl,rfl,fun e he=>absurd he (by simp)⟩
theorem LsU.len {S:List Sd} {k:Nat} {L:List Se} (hm:L.map Se.s=S.take k) (hk:k≤S.length):L.length=k:=by
 have:=congrArg List.length hm
 rw[List.length_map,List.length_take] at this
 omega
theorem LsU.at {S:List Sd} {k:Nat} {L:List Se} (hm:L.map Se.s=S.take k) (hk:k≤S.length) {j:Nat} (hj:j<k):(L.getD j Se.none).s=S.getD j Sd.none:=by
 have hl:=LsU.len hm hk
 have e:(L.map Se.s)[j]?=(S.take k)[j]?:=by rw[hm]
 rw[List.getElem?_map,List.getElem?_eq_getElem (show j<L.length by omega),List.getElem?_take_of_lt hj,List.getElem?_eq_getElem (show j<S.length by omega)] at e
 rw[aC (show j<L.length by omega),aC (show j<S.length by omega)]
 simpa using e
theorem LsU.step {R:List Rw} {S:List Sd} {k:Nat} (h:LsU R S k) (hk:k<S.length) (hf:(bj R (S.getD k Sd.none)).isSome=true) (hl:lay (S.getD k Sd.none).wh.vb=lay (S.getD 0 Sd.none).wh.vb) (hn:∀ j,j<k→¬((S.getD j Sd.none).th=(S.getD k Sd.none).th∧(S.getD j Sd.none).pl=(S.getD k Sd.none).pl)):LsU R S (k+1):=by
 obtain⟨L,h1,h2,h3⟩:=h
 have hs:=h1.step hk
 rw[aC hk] at hf hl hn
 cases q:bj R S[k] with
 | none=>rw[q] at hf;cases hf
 | some e =>
  have hes:=(dO q).1
  have hlen:=LsU.len h2 (Nat.le_of_lt hk)
  have hj:dz e L=true:=ol fun j hj=>by
   have hjk:j<k:=by omega
   have hat:=LsU.at h2 (Nat.le_of_lt hk) hjk
   rw[fZ (by rw[hes,hat];exact fun z=>hn j hjk ⟨z.1.symm,z.2.symm⟩),hes,hl]
   have:=h3 (L.getD j Se.none) (by rw[aC hj];exact List.getElem_mem _)
   rw[this]
   simp
  rw[q] at hs
  simp only at hs
  rw[if_pos hj] at hs
  refine⟨L++[e],hs.symm,?_,fun x hx=>?_⟩
  ·rw[List.map_append,h2,List.take_add_one,List.getElem?_eq_getElem hk,List.map_singleton,hes]
   rfl
  ·rw[List.mem_append,List.mem_singleton] at hx
   rcases hx with hx | rfl
   ·exact h3 x hx
   ·rw[hes];exact hl
theorem LsU.lost {R:List Rw} {S:List Sd} {k:Nat} (h:LsU R S k) (hk:k<S.length) (hf:(bj R (S.getD k Sd.none)).isSome=false):aN R S []=none:=by
 obtain⟨L,h1,h2,h3⟩:=h
 have hs:=h1.step hk
 rw[aC hk] at hf
 cases q:bj R S[k] with
 | none=>rw[q] at hs;exact hs
 | some e=>rw[q] at hf;cases hf
theorem LsU.clash {R:List Rw} {S:List Sd} {k j:Nat} (h:LsU R S k) (hk:k<S.length) (hj:j<k) (hc:lay (S.getD k Sd.none).wh.vb≠lay (S.getD j Sd.none).wh.vb∨((S.getD j Sd.none).th=(S.getD k Sd.none).th∧(S.getD j Sd.none).pl=(S.getD k Sd.none).pl)):aN R S []=none:=by
 obtain⟨L,h1,h2,h3⟩:=h
 have hs:=h1.step hk
 rw[aC hk] at hc
 cases q:bj R S[k] with
 | none=>rw[q] at hs;exact hs
 | some e =>
  have hes:=(dO q).1
  have hlen:=LsU.len h2 (Nat.le_of_lt hk)
  have hat:=LsU.at h2 (Nat.le_of_lt hk) hj
  have hcl:dn e (L.getD j Se.none)=true:=by
   by_cases hsm:(S.getD j Sd.none).th=S[k].th∧(S.getD j Sd.none).pl=S[k].pl
   ·exact iU (by rw[hes,hat];exact hsm.1.symm) (by rw[hes,hat];exact hsm.2.symm)
   ·rw[fZ (by rw[hes,hat];exact fun z=>hsm ⟨z.1.symm,z.2.symm⟩),hes,hat]
    rcases hc with hc | hc
    ·rw[decide_eq_false hc];rfl
    ·exact absurd hc hsm
  have hjn:dz e L=false:=nd (by omega) hcl
  rw[q] at hs
  simp only at hs
  rw[hjn,if_neg (by simp)] at hs
  exact hs
theorem LsU.end {R:List Rw} {S:List Sd} (h:LsU R S S.length):(aN R S []).isSome=true:=by
 obtain⟨L,h1,-,-⟩:=h
 unfold rE at h1
 rw[List.drop_length] at h1
 rw[←h1]
 rfl
theorem cN {w:World} {g off n c:Nat} {X:List Sd} (h:sdR.At w (.slice (some ⟨g,off,none⟩) n c) X) {i:Nat} {x:Sd} (hx:X[i]?=some x):w.rangeAt g (off+i*10) (sdc x):=by
 obtain⟨hi,e⟩:=List.getElem?_eq_some_iff.1 hx
 obtain⟨g',off',cap,e1,r⟩:=dW h hi
 injection e1 with e1 _ _
 injection e1 with e1
 injection e1 with ea eb
 rw[ea,eb,←e]
 exact r
def NoS (S:List Sd) (k j:Nat):Prop:=∀ i,i<j→¬((S.getD i Sd.none).th=(S.getD k Sd.none).th∧(S.getD i Sd.none).pl=(S.getD k Sd.none).pl)
theorem NoS.step {S:List Sd} {k j:Nat} {a b:Sd} (h:NoS S k j) (ha:S.getD j Sd.none=a) (hb:S.getD k Sd.none=b) (hn:¬(a.th=b.th∧a.pl=b.pl)):NoS S k (j+1):=fun i hi=>by
 by_cases e:i=j
 ·subst e;rw[ha,hb];exact hn
 ·exact h i (by omega)
end Go.Proofs.YtjmepebbcnhalaaGreat
