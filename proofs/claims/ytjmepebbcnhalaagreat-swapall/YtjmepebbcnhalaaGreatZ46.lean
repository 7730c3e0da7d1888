import Derived.Test.YtjmepebbcnhalaaGreatZ45
namespace Go.Proofs.YtjmepebbcnhalaaGreat
open Tryz
set_option maxRecDepth 100000
set_option maxHeartbeats 4000000
open Go.RowKit Go.Shelf
variable {s:Sd} {ho n:Int} {h:Hp} {cd:Int→Hd×List Pt} {ts:List Th} {F:List Fe} {t:Th} {f:Fe} {ok:Nat→Prop} {w w':World} {v vt vf:Value} {p:Pl} {gs:List Ent} {R:List Rw}
def eu (s:Sd) (ho:Int) (h:Hp):Hp :=
 if s.wh.vb=19 then Hp.none
 else if 9999<(if s.wh.vb=16 then h.ct - s.wh.ct else if s.wh.vb=17 then 2*h.ct else h.ct) then ⟨h.vb,if s.wh.vb=18 then -1 - (1 - ho) else h.on,9999,h.ho,h.vn,h.dr⟩
 else if (if s.wh.vb=16 then h.ct - s.wh.ct else if s.wh.vb=17 then 2*h.ct else h.ct)<1 then Hp.none
 else ⟨h.vb,if s.wh.vb=18 then -1 - (1 - ho) else h.on,if s.wh.vb=16 then h.ct - s.wh.ct else if s.wh.vb=17 then 2*h.ct else h.ct,h.ho,h.vn,h.dr⟩
theorem uJ (vf:Value) (F:List Fe) (s:Sd) (z:Nat) (g:Fe) (h:Hp) (w:World) (A:feR.At w vf F) (hz:s.th=(z:Int)+1) (hg:F[z]?=some g) (hl:F.length≤4096) (ho:g.ho=0∨g.ho=1) (hv:16≤s.wh.vb∧s.wh.vb≤19) (hc0:¬s.wh.vb=19→-9999≤h.ct∧h.ct≤9999) (hs:s.wh.vb=16→1≤s.wh.ct∧s.wh.ct≤99):Calls prog 105 #[vf,sdv s,hpv h] w fun e w'=>e=.returned (hpv (eu s g.ho h))∧w.grownBy w' none:=by
 obtain⟨pf,cf,rfl⟩:=A.form;have hzl:z<F.length:=(Qh hg).1;obtain⟨W0,hW0⟩:=Qe (w.alloc (.cells #[.int .i64 s.th,.int .i64 s.pl,.int .u8 s.wh.wn,.int .u8 s.wh.vb,.int .u8 s.wh.wm,.int .i64 s.wh.ct,.int .u8 s.wh.su,.int .u8 s.wh.tr,.int .u8 s.wh.mr,.string s.wh.nm] 64));obtain⟨W1,hW1⟩:=Qe (W0.alloc (.cells #[.int .u8 h.vb,.int .i64 h.on,.int .i64 h.ct,.int .i64 h.ho,.bool h.vn,.bool h.dr] 87));obtain⟨V,hV⟩:=Qe (W1.alloc (.cells #[.int .u8 0,.int .i64 0,.int .i64 0,.int .i64 0,.bool false,.bool false] 87));have g0:w.grownBy W0 none:=by rw[hW0];exact QG
 have g1:W0.grownBy W1 none:=by rw[hW1];exact QG
 have g2:W1.grownBy V none:=by rw[hV];exact QG
 have e0:W0.heap.size=w.heap.size+1:=by rw[hW0,Qa3]
 have e1:W1.heap.size=w.heap.size+1+1:=by rw[hW1,Qa3,e0]
 have HG:QH (w.grownBy V none):=aa (aa g0 g1) g2;have HS:QH (SdB V w.heap.size s):=ag (aa g1 g2) (by rw[hW0];exact aj w _ _) (by simp);have HH:QH (HpB V (w.heap.size+1) h):=ag g2 (by rw[←e0,hW1];exact aj _ _ _) (by simp);have HZ0:QH (HpB V (w.heap.size+1+1) Hp.none):=by rw[←e1,hV];exact aj _ _ _
 have HA:QH (feR.At V (.slice pf F.length cf) F):=A.keep HG.o;have hV':V=((w.alloc (.cells #[.int .i64 s.th,.int .i64 s.pl,.int .u8 s.wh.wn,.int .u8 s.wh.vb,.int .u8 s.wh.wm,.int .i64 s.wh.ct,.int .u8 s.wh.su,.int .u8 s.wh.tr,.int .u8 s.wh.mr,.string s.wh.nm] 64)).alloc (.cells #[.int .u8 h.vb,.int .i64 h.on,.int .i64 h.ct,.int .i64 h.ho,.bool h.vn,.bool h.dr] 87)).alloc (.cells #[.int .u8 0,.int .i64 0,.int .i64 0,.int .i64 0,.bool false,.bool false] 87):=by rw[hV,hW1,hW0]
 have HZh:QH (s.th=(z:Int)+1):=hz;unfold sdv hpv;clear hz A hW0 hW1 hV g0 g1 g2 e0 e1;go_enter func105,ntmps105;go_upto_region 1 with fail;rw[←hV'];clear hV';obtain⟨n0,hn0⟩:=Qe (w.heap.size);have Hn0:QH (w.heap.size≤n0):=by rw[hn0];exact Qj _
 simp only[←hn0] at HS HH HZ0 ⊢;obtain⟨n1,hn1⟩:=Qe (n0+1);simp only[←hn1] at HH HZ0 ⊢;obtain⟨n2,hn2⟩:=Qe (n1+1);simp only[←hn2] at HZ0 ⊢;have Hne:QH ((n1≠n2∧w.heap.size≤n1)∧w.heap.size≤n2):=⟨⟨by omega,by have:=Hn0.o;omega⟩,by have:=Hn0.o;omega⟩
 clear hn0 hn1 hn2;obtain⟨s0,s1,s2,s3,s4,s5,s6,s7,s8,s9⟩:=aQ HS.o;obtain⟨x0,x1,x2,x3,x4,x5⟩:=aJ HH.o;have rf:=fun i=>aq HH.o i;have hvs:s.wh.vb=16∨s.wh.vb=17∨s.wh.vb=18∨s.wh.vb=19:=by omega
 rcases hvs with v | v | v | v
 ·have hc:=hc0 (by omega);have HM:QH (eu s g.ho h=if 9999<h.ct - s.wh.ct then ⟨h.vb,h.on,9999,h.ho,h.vn,h.dr⟩ else if h.ct - s.wh.ct<1 then Hp.none else ⟨h.vb,h.on,h.ct - s.wh.ct,h.ho,h.vn,h.dr⟩):=by show _=_;unfold eu;rw[v];rfl
  have q:=hs v;have wc:wrap64 (h.ct - s.wh.ct)=h.ct - s.wh.ct:=by unfold wrap64;omega
  have wc2:IntKind.i64.wrap (h.ct - s.wh.ct)=h.ct - s.wh.ct:=by rw[IntWalk.i64_in _ (by omega)]
  rw[v] at s3;clear q hs hc hc0 hv ho hl hg hzl v HA;go_upto_region 10 with fail;obtain⟨U,hU⟩:=Qe (V.setCell ⟨n1,2,none⟩ (.int .i64 (h.ct - s.wh.ct)))
  have HU:QH (HpB U n1 ⟨h.vb,h.on,h.ct - s.wh.ct,h.ho,h.vn,h.dr⟩∧HpB U n2 Hp.none∧w.grownBy U none):=by
   have q:V.grownBy U (some n1):=(by rw[hU];exact al _ _ _ _);exact⟨by rw[hU];exact iJ HH.o rfl,ag q HZ0.o (fun e=>Hne.o.1.1 (Qa1 e).symm),ak HG.o q (fun y e=>by cases e;exact Hne.o.1.2)⟩
  rw[←hU];clear hU x0 x1 x2 x3 x4 x5 rf;obtain⟨x0,x1,x2,x3,x4,x5⟩:=aJ HU.o.1;simp only at x0 x1 x2 x3 x4 x5;by_cases c1:(9999:Int)<h.ct - s.wh.ct
  ·have d1:decide ((9999:Int)<h.ct - s.wh.ct)=true:=Qy c1;have HE:QH (eu s g.ho h=⟨h.vb,h.on,9999,h.ho,h.vn,h.dr⟩):=(by show _=_;rw[HM.o,if_pos c1]);clear c1;go_upto_region 11 with fail;have rf:=fun i=>aq HU.o.1 i;go_upto_region 12 with fail;obtain⟨Z,hZ⟩:=Qe (U.setCell ⟨n1,2,none⟩ (.int .i64 9999))
   have HZ:QH (HpB Z n1 ⟨h.vb,h.on,9999,h.ho,h.vn,h.dr⟩∧HpB Z n2 Hp.none∧w.grownBy Z none):=by
    have q:U.grownBy Z (some n1):=(by rw[hZ];exact al _ _ _ _);exact⟨by rw[hZ];exact iJ HU.o.1 rfl,ag q HU.o.2.1 (fun e=>Hne.o.1.1 (Qa1 e).symm),ak HU.o.2.2 q (fun y e=>by cases e;exact Hne.o.1.2)⟩
   rw[←hZ];clear hZ x0 x1 x2 x3 x4 x5 rf;obtain⟨x0,x1,x2,x3,x4,x5⟩:=aJ HZ.o.1;simp only at x0 x1 x2 x3 x4 x5;obtain⟨Wr,hWr⟩:=Qe (Z.setRow n2 (hpa ⟨h.vb,h.on,9999,h.ho,h.vn,h.dr⟩));have HWr:QH (HpB Wr n2 ⟨h.vb,h.on,9999,h.ho,h.vn,h.dr⟩∧Z.grownBy Wr (some n2)):=⟨by rw[hWr];exact setRow_heap Z n2 _ _ _ _ HZ.o.2.1,by rw[hWr];exact az _ _ _⟩
   go_wp2_with (refine wpList_store_row rfl 87 (.tmp 6) (.tmp 48) rfl n2 (hpa ⟨h.vb,h.on,9999,h.ho,h.vn,h.dr⟩) rfl rfl 87 _ HZ.o.2.1 (by kernel_rfl) rfl (by simp[hpa,Value.oneCell']) ?_)
   rw[←hWr];obtain⟨r0,r1,r2,r3,r4,r5⟩:=aJ HWr.o.1;refine bodyPost_ret (v:=hpv ⟨h.vb,h.on,9999,h.ho,h.vn,h.dr⟩) (by simp[results,results105,go_sem,hpv,r0,r1,r2,r3,r4,r5]) rfl ⟨by rw[HE.o];rfl,ak HZ.o.2.2 HWr.o.2 (fun y e=>by cases e;exact Hne.o.2)⟩
  ·have d1:decide ((9999:Int)<h.ct - s.wh.ct)=false:=Qx c1;by_cases c2:h.ct - s.wh.ct<1
   ·have d2:decide (h.ct - s.wh.ct<1)=true:=Qy c2;have HE:QH (eu s g.ho h=Hp.none):=(by show _=_;rw[HM.o,if_neg c1,if_pos c2]);clear c1 c2;obtain⟨Wr,hWr⟩:=Qe (U.setRow n2 (hpa Hp.none));have HWr:QH (HpB Wr n2 Hp.none∧U.grownBy Wr (some n2)):=⟨by rw[hWr];exact setRow_heap U n2 _ _ _ _ HU.o.2.1,by rw[hWr];exact az _ _ _⟩
    go_wp2_with (refine wpList_store_row rfl 87 (.tmp 6) (.tmp 47) rfl n2 (hpa Hp.none) rfl rfl 87 _ HU.o.2.1 (by kernel_rfl) rfl (by simp[hpa,Value.oneCell']) ?_)
    rw[←hWr];obtain⟨r0,r1,r2,r3,r4,r5⟩:=cD HWr.o.1;refine bodyPost_ret (v:=hpv Hp.none) (by simp[results,results105,go_sem,hpv,Hp.none,r0,r1,r2,r3,r4,r5]) rfl ⟨by rw[HE.o];rfl,ak HU.o.2.2 HWr.o.2 (fun y e=>by cases e;exact Hne.o.2)⟩
   ·have d2:decide (h.ct - s.wh.ct<1)=false:=Qx c2;have HE:QH (eu s g.ho h=⟨h.vb,h.on,h.ct - s.wh.ct,h.ho,h.vn,h.dr⟩):=(by show _=_;rw[HM.o,if_neg c1,if_neg c2]);clear c1 c2;obtain⟨Wr,hWr⟩:=Qe (U.setRow n2 (hpa ⟨h.vb,h.on,h.ct - s.wh.ct,h.ho,h.vn,h.dr⟩));have HWr:QH (HpB Wr n2 ⟨h.vb,h.on,h.ct - s.wh.ct,h.ho,h.vn,h.dr⟩∧U.grownBy Wr (some n2)):=⟨by rw[hWr];exact setRow_heap U n2 _ _ _ _ HU.o.2.1,by rw[hWr];exact az _ _ _⟩
    go_wp2_with (refine wpList_store_row rfl 87 (.tmp 6) (.tmp 48) rfl n2 (hpa ⟨h.vb,h.on,h.ct - s.wh.ct,h.ho,h.vn,h.dr⟩) rfl rfl 87 _ HU.o.2.1 (by kernel_rfl) rfl (by simp[hpa,Value.oneCell']) ?_)
    rw[←hWr];obtain⟨r0,r1,r2,r3,r4,r5⟩:=aJ HWr.o.1;refine bodyPost_ret (v:=hpv ⟨h.vb,h.on,h.ct - s.wh.ct,h.ho,h.vn,h.dr⟩) (by simp[results,results105,go_sem,hpv,r0,r1,r2,r3,r4,r5]) rfl ⟨by rw[HE.o];rfl,ak HU.o.2.2 HWr.o.2 (fun y e=>by cases e;exact Hne.o.2)⟩
 ·have hc:=hc0 (by omega);have HM:QH (eu s g.ho h=if 9999<2*h.ct then ⟨h.vb,h.on,9999,h.ho,h.vn,h.dr⟩ else if 2*h.ct<1 then Hp.none else ⟨h.vb,h.on,2*h.ct,h.ho,h.vn,h.dr⟩):=by show _=_;unfold eu;rw[v];rfl
  have wc:wrap64 (2*h.ct)=2*h.ct:=by unfold wrap64;omega
  have wc2:IntKind.i64.wrap (2*h.ct)=2*h.ct:=by rw[IntWalk.i64_in _ (by omega)]
  rw[v] at s3;clear hs hc hc0 hv ho hl hg hzl v HA;go_upto_region 10 with fail;obtain⟨U,hU⟩:=Qe (V.setCell ⟨n1,2,none⟩ (.int .i64 (2*h.ct)))
  have HU:QH (HpB U n1 ⟨h.vb,h.on,2*h.ct,h.ho,h.vn,h.dr⟩∧HpB U n2 Hp.none∧w.grownBy U none):=by
   have q:V.grownBy U (some n1):=(by rw[hU];exact al _ _ _ _);exact⟨by rw[hU];exact iJ HH.o rfl,ag q HZ0.o (fun e=>Hne.o.1.1 (Qa1 e).symm),ak HG.o q (fun y e=>by cases e;exact Hne.o.1.2)⟩
  rw[←hU];clear hU x0 x1 x2 x3 x4 x5 rf;obtain⟨x0,x1,x2,x3,x4,x5⟩:=aJ HU.o.1;simp only at x0 x1 x2 x3 x4 x5;by_cases c1:(9999:Int)<2*h.ct
  ·have d1:decide ((9999:Int)<2*h.ct)=true:=Qy c1;have HE:QH (eu s g.ho h=⟨h.vb,h.on,9999,h.ho,h.vn,h.dr⟩):=(by show _=_;rw[HM.o,if_pos c1]);clear c1;go_upto_region 11 with fail;have rf:=fun i=>aq HU.o.1 i;go_upto_region 12 with fail;obtain⟨Z,hZ⟩:=Qe (U.setCell ⟨n1,2,none⟩ (.int .i64 9999))
   have HZ:QH (HpB Z n1 ⟨h.vb,h.on,9999,h.ho,h.vn,h.dr⟩∧HpB Z n2 Hp.none∧w.grownBy Z none):=by
    have q:U.grownBy Z (some n1):=(by rw[hZ];exact al _ _ _ _);exact⟨by rw[hZ];exact iJ HU.o.1 rfl,ag q HU.o.2.1 (fun e=>Hne.o.1.1 (Qa1 e).symm),ak HU.o.2.2 q (fun y e=>by cases e;exact Hne.o.1.2)⟩
   rw[←hZ];clear hZ x0 x1 x2 x3 x4 x5 rf;obtain⟨x0,x1,x2,x3,x4,x5⟩:=aJ HZ.o.1;simp only at x0 x1 x2 x3 x4 x5;obtain⟨Wr,hWr⟩:=Qe (Z.setRow n2 (hpa ⟨h.vb,h.on,9999,h.ho,h.vn,h.dr⟩));have HWr:QH (HpB Wr n2 ⟨h.vb,h.on,9999,h.ho,h.vn,h.dr⟩∧Z.grownBy Wr (some n2)):=⟨by rw[hWr];exact setRow_heap Z n2 _ _ _ _ HZ.o.2.1,by rw[hWr];exact az _ _ _⟩
   go_wp2_with (refine wpList_store_row rfl 87 (.tmp 6) (.tmp 48) rfl n2 (hpa ⟨h.vb,h.on,9999,h.ho,h.vn,h.dr⟩) rfl rfl 87 _ HZ.o.2.1 (by kernel_rfl) rfl (by simp[hpa,Value.oneCell']) ?_)
   rw[←hWr];obtain⟨r0,r1,r2,r3,r4,r5⟩:=aJ HWr.o.1;refine bodyPost_ret (v:=hpv ⟨h.vb,h.on,9999,h.ho,h.vn,h.dr⟩) (by simp[results,results105,go_sem,hpv,r0,r1,r2,r3,r4,r5]) rfl ⟨by rw[HE.o];rfl,ak HZ.o.2.2 HWr.o.2 (fun y e=>by cases e;exact Hne.o.2)⟩
  ·have d1:decide ((9999:Int)<2*h.ct)=false:=Qx c1;by_cases c2:2*h.ct<1
   ·have d2:decide (2*h.ct<1)=true:=Qy c2;have HE:QH (eu s g.ho h=Hp.none):=(by show _=_;rw[HM.o,if_neg c1,if_pos c2]);clear c1 c2;obtain⟨Wr,hWr⟩:=Qe (U.setRow n2 (hpa Hp.none));have HWr:QH (HpB Wr n2 Hp.none∧U.grownBy Wr (some n2)):=⟨by rw[hWr];exact setRow_heap U n2 _ _ _ _ HU.o.2.1,by rw[hWr];exact az _ _ _⟩
    go_wp2_with (refine wpList_store_row rfl 87 (.tmp 6) (.tmp 47) rfl n2 (hpa Hp.none) rfl rfl 87 _ HU.o.2.1 (by kernel_rfl) rfl (by simp[hpa,Value.oneCell']) ?_)
    rw[←hWr];obtain⟨r0,r1,r2,r3,r4,r5⟩:=cD HWr.o.1;refine bodyPost_ret (v:=hpv Hp.none) (by simp[results,results105,go_sem,hpv,Hp.none,r0,r1,r2,r3,r4,r5]) rfl ⟨by rw[HE.o];rfl,ak HU.o.2.2 HWr.o.2 (fun y e=>by cases e;exact Hne.o.2)⟩
   ·have d2:decide (2*h.ct<1)=false:=Qx c2;have HE:QH (eu s g.ho h=⟨h.vb,h.on,2*h.ct,h.ho,h.vn,h.dr⟩):=(by show _=_;rw[HM.o,if_neg c1,if_neg c2]);clear c1 c2;obtain⟨Wr,hWr⟩:=Qe (U.setRow n2 (hpa ⟨h.vb,h.on,2*h.ct,h.ho,h.vn,h.dr⟩));have HWr:QH (HpB Wr n2 ⟨h.vb,h.on,2*h.ct,h.ho,h.vn,h.dr⟩∧U.grownBy Wr (some n2)):=⟨by rw[hWr];exact setRow_heap U n2 _ _ _ _ HU.o.2.1,by rw[hWr];exact az _ _ _⟩
    go_wp2_with (refine wpList_store_row rfl 87 (.tmp 6) (.tmp 48) rfl n2 (hpa ⟨h.vb,h.on,2*h.ct,h.ho,h.vn,h.dr⟩) rfl rfl 87 _ HU.o.2.1 (by kernel_rfl) rfl (by simp[hpa,Value.oneCell']) ?_)
    rw[←hWr];obtain⟨r0,r1,r2,r3,r4,r5⟩:=aJ HWr.o.1;refine bodyPost_ret (v:=hpv ⟨h.vb,h.on,2*h.ct,h.ho,h.vn,h.dr⟩) (by simp[results,results105,go_sem,hpv,r0,r1,r2,r3,r4,r5]) rfl ⟨by rw[HE.o];rfl,ak HU.o.2.2 HWr.o.2 (fun y e=>by cases e;exact Hne.o.2)⟩
 ·have hc:=hc0 (by omega);have HM:QH (eu s g.ho h=if 9999<h.ct then ⟨h.vb,-1 - (1 - g.ho),9999,h.ho,h.vn,h.dr⟩ else if h.ct<1 then Hp.none else ⟨h.vb,-1 - (1 - g.ho),h.ct,h.ho,h.vn,h.dr⟩):=by show _=_;unfold eu;rw[v];rfl
  have wc:wrap64 (1 - g.ho)=1 - g.ho:=by unfold wrap64;omega
  have wd:wrap64 (-1 - (1 - g.ho))=-1 - (1 - g.ho):=by unfold wrap64;omega
  have wz:wrap64 (z:Int)=(z:Int):=by unfold wrap64;omega
  have wz2:IntKind.i64.wrap (z:Int)=(z:Int):=by rw[IntWalk.i64_in _ (by omega)]
  have z0:(0:Int)≤(z:Int):=Int.natCast_nonneg z;have z1:(z:Int)<(F.length:Int):=Int.ofNat_lt.2 hzl;obtain⟨gT,oT,cT,eT,-⟩:=dh HA.o hzl;injection eT with eT eT2 eT3;clear eT2 eT3;subst eT;obtain⟨f0,-⟩:=bP (ed HA.o hg);rw[HZh.o] at s0;rw[v] at s3;clear hs hc hc0 hv ho hl hg hzl v HA;go_upto_region 10 with fail;obtain⟨U,hU⟩:=Qe (V.setCell ⟨n1,1,none⟩ (.int .i64 (-1 - (1 - g.ho))))
  have HU:QH (HpB U n1 ⟨h.vb,-1 - (1 - g.ho),h.ct,h.ho,h.vn,h.dr⟩∧HpB U n2 Hp.none∧w.grownBy U none):=by
   have q:V.grownBy U (some n1):=(by rw[hU];exact al _ _ _ _);exact⟨by rw[hU];exact iJ HH.o rfl,ag q HZ0.o (fun e=>Hne.o.1.1 (Qa1 e).symm),ak HG.o q (fun y e=>by cases e;exact Hne.o.1.2)⟩
  rw[←hU];clear hU x0 x1 x2 x3 x4 x5 rf;obtain⟨x0,x1,x2,x3,x4,x5⟩:=aJ HU.o.1;simp only at x0 x1 x2 x3 x4 x5;by_cases c1:(9999:Int)<h.ct
  ·have d1:decide ((9999:Int)<h.ct)=true:=Qy c1;have HE:QH (eu s g.ho h=⟨h.vb,(-1 - (1 - g.ho)),9999,h.ho,h.vn,h.dr⟩):=(by show _=_;rw[HM.o,if_pos c1]);clear c1;go_upto_region 11 with fail;have rf:=fun i=>aq HU.o.1 i;go_upto_region 12 with fail;obtain⟨Z,hZ⟩:=Qe (U.setCell ⟨n1,2,none⟩ (.int .i64 9999))
   have HZ:QH (HpB Z n1 ⟨h.vb,(-1 - (1 - g.ho)),9999,h.ho,h.vn,h.dr⟩∧HpB Z n2 Hp.none∧w.grownBy Z none):=by
    have q:U.grownBy Z (some n1):=(by rw[hZ];exact al _ _ _ _);exact⟨by rw[hZ];exact iJ HU.o.1 rfl,ag q HU.o.2.1 (fun e=>Hne.o.1.1 (Qa1 e).symm),ak HU.o.2.2 q (fun y e=>by cases e;exact Hne.o.1.2)⟩
   rw[←hZ];clear hZ x0 x1 x2 x3 x4 x5 rf;obtain⟨x0,x1,x2,x3,x4,x5⟩:=aJ HZ.o.1;simp only at x0 x1 x2 x3 x4 x5;obtain⟨Wr,hWr⟩:=Qe (Z.setRow n2 (hpa ⟨h.vb,(-1 - (1 - g.ho)),9999,h.ho,h.vn,h.dr⟩));have HWr:QH (HpB Wr n2 ⟨h.vb,(-1 - (1 - g.ho)),9999,h.ho,h.vn,h.dr⟩∧Z.grownBy Wr (some n2)):=⟨by rw[hWr];exact setRow_heap Z n2 _ _ _ _ HZ.o.2.1,by rw[hWr];exact az _ _ _⟩
   go_wp2_with (refine wpList_store_row rfl 87 (.tmp 6) (.tmp 48) rfl n2 (hpa ⟨h.vb,(-1 - (1 - g.ho)),9999,h.ho,h.vn,h.dr⟩) rfl rfl 87 _ HZ.o.2.1 (by kernel_rfl) rfl (by simp[hpa,Value.oneCell']) ?_)
   rw[←hWr];obtain⟨r0,r1,r2,r3,r4,r5⟩:=aJ HWr.o.1;refine bodyPost_ret (v:=hpv ⟨h.vb,(-1 - (1 - g.ho)),9999,h.ho,h.vn,h.dr⟩) (by simp[results,results105,go_sem,hpv,r0,r1,r2,r3,r4,r5]) rfl ⟨by rw[HE.o];rfl,ak HZ.o.2.2 HWr.o.2 (fun y e=>by cases e;exact Hne.o.2)⟩
  ·have d1:decide ((9999:Int)<h.ct)=false:=Qx c1;by_cases c2:h.ct<1
   ·have d2:decide (h.ct<1)=true:=Qy c2;have HE:QH (eu s g.ho h=Hp.none):=(by show _=_;rw[HM.o,if_neg c1,if_pos c2]);clear c1 c2;obtain⟨Wr,hWr⟩:=Qe (U.setRow n2 (hpa Hp.none));have HWr:QH (HpB Wr n2 Hp.none∧U.grownBy Wr (some n2)):=⟨by rw[hWr];exact setRow_heap U n2 _ _ _ _ HU.o.2.1,by rw[hWr];exact az _ _ _⟩
    go_wp2_with (refine wpList_store_row rfl 87 (.tmp 6) (.tmp 47) rfl n2 (hpa Hp.none) rfl rfl 87 _ HU.o.2.1 (by kernel_rfl) rfl (by simp[hpa,Value.oneCell']) ?_)
    rw[←hWr];obtain⟨r0,r1,r2,r3,r4,r5⟩:=cD HWr.o.1;refine bodyPost_ret (v:=hpv Hp.none) (by simp[results,results105,go_sem,hpv,Hp.none,r0,r1,r2,r3,r4,r5]) rfl ⟨by rw[HE.o];rfl,ak HU.o.2.2 HWr.o.2 (fun y e=>by cases e;exact Hne.o.2)⟩
   ·have d2:decide (h.ct<1)=false:=Qx c2;have HE:QH (eu s g.ho h=⟨h.vb,(-1 - (1 - g.ho)),h.ct,h.ho,h.vn,h.dr⟩):=(by show _=_;rw[HM.o,if_neg c1,if_neg c2]);clear c1 c2;obtain⟨Wr,hWr⟩:=Qe (U.setRow n2 (hpa ⟨h.vb,(-1 - (1 - g.ho)),h.ct,h.ho,h.vn,h.dr⟩));have HWr:QH (HpB Wr n2 ⟨h.vb,(-1 - (1 - g.ho)),h.ct,h.ho,h.vn,h.dr⟩∧U.grownBy Wr (some n2)):=⟨by rw[hWr];exact setRow_heap U n2 _ _ _ _ HU.o.2.1,by rw[hWr];exact az _ _ _⟩
    go_wp2_with (refine wpList_store_row rfl 87 (.tmp 6) (.tmp 48) rfl n2 (hpa ⟨h.vb,(-1 - (1 - g.ho)),h.ct,h.ho,h.vn,h.dr⟩) rfl rfl 87 _ HU.o.2.1 (by kernel_rfl) rfl (by simp[hpa,Value.oneCell']) ?_)
    rw[←hWr];obtain⟨r0,r1,r2,r3,r4,r5⟩:=aJ HWr.o.1;refine bodyPost_ret (v:=hpv ⟨h.vb,(-1 - (1 - g.ho)),h.ct,h.ho,h.vn,h.dr⟩) (by simp[results,results105,go_sem,hpv,r0,r1,r2,r3,r4,r5]) rfl ⟨by rw[HE.o];rfl,ak HU.o.2.2 HWr.o.2 (fun y e=>by cases e;exact Hne.o.2)⟩
 ·have HE:QH (eu s g.ho h=Hp.none):=by show _=_;unfold eu;rw[if_pos v]
  rw[v] at s3;clear hs hc0 hv ho hl hg hzl v HA;obtain⟨Wr,hWr⟩:=Qe (V.setRow n2 (hpa Hp.none));have HWr:QH (HpB Wr n2 Hp.none∧V.grownBy Wr (some n2)):=⟨by rw[hWr];exact setRow_heap V n2 _ _ _ _ HZ0.o,by rw[hWr];exact az _ _ _⟩
  go_wp2_with (refine wpList_store_row rfl 87 (.tmp 6) (.tmp 39) rfl n2 (hpa Hp.none) rfl rfl 87 _ HZ0.o (by kernel_rfl) rfl (by simp[hpa,Value.oneCell']) ?_)
  rw[←hWr];obtain⟨r0,r1,r2,r3,r4,r5⟩:=cD HWr.o.1;refine bodyPost_ret (v:=hpv Hp.none) (by simp[results,results105,go_sem,hpv,Hp.none,r0,r1,r2,r3,r4,r5]) rfl ⟨by rw[HE.o];rfl,ak HG.o HWr.o.2 (fun y e=>by cases e;exact Hne.o.2)⟩
end Go.Proofs.YtjmepebbcnhalaaGreat
namespace Go.Proofs.YtjmepebbcnhalaaGreat
open Tryz
open Go.RowKit
variable {s:Sd} {ho n:Int} {h:Hp} {cd:Int→Hd×List Pt} {ts:List Th} {F:List Fe} {t:Th} {f:Fe} {ok:Nat→Prop} {w w':World} {v vt vf:Value} {p:Pl} {gs:List Ent} {R:List Rw}
theorem Dn (hv:16≤s.wh.vb∧s.wh.vb≤19) (hc0:¬s.wh.vb=19→-9999≤h.ct∧h.ct≤9999) (hs:s.wh.vb=16→1≤s.wh.ct∧s.wh.ct≤99) (ho1:ho=0∨ho=1) (hb:h.vb=1∨s.wh.vb=19):eu s ho h=fX s ho h:=by
 rcases h with ⟨vb,on,ct,hh,vn,dr⟩
 have hvs:s.wh.vb=16∨s.wh.vb=17∨s.wh.vb=18∨s.wh.vb=19:=by omega
 rcases hvs with v | v | v | v
 ·have hc:=hc0 (by omega)
  rcases hb with rfl | e
  ·have q:=hs v;simp only at hc;have e1:wrap64 (ct - s.wh.ct)=ct - s.wh.ct:=(by unfold wrap64;omega);have n1:¬9999<ct - s.wh.ct:=(by omega);unfold eu fX fm cw;simp only[v,e1];by_cases c:ct - s.wh.ct<1
   ·simp[c,n1]
   ·simp[c,n1]
  ·omega
 ·have hc:=hc0 (by omega)
  rcases hb with rfl | e
  ·simp only at hc;have e1:wrap64 (2*ct)=2*ct:=(by unfold wrap64;omega);unfold eu fX fm cw;simp only[v,e1];by_cases c1:9999<2*ct
   ·have m:min (2*ct) 9999=9999:=(by omega);simp[c1,m]
   ·have m:min (2*ct) 9999=2*ct:=(by omega);by_cases c:2*ct<1
    ·simp[c1,c,m]
    ·simp[c1,c,m]
  ·omega
 ·have hc:=hc0 (by omega)
  rcases hb with rfl | e
  ·simp only at hc;have e1:wrap64 (1 - ho)=1 - ho:=(by unfold wrap64;omega);have e2:wrap64 (-1 - (1 - ho))=-1 - (1 - ho):=(by unfold wrap64;omega);unfold eu fX fm cw;simp only[v,e1,e2];have c1:¬9999<ct:=(by omega);by_cases c:ct<1
   ·simp[c1,c]
   ·simp[c1,c]
  ·omega
 ·unfold eu fX fm cw;rw[if_pos v];simp[v,Hp.none]
set_option maxRecDepth 100000
set_option maxHeartbeats 4000000
open Go.Shelf
theorem yc {j z:Nat} {g:Fe} (ht:ts[j]?=some t) (hf:F[j]?=some f) (hz:s.th=(z:Int)+1) (hg:F[z]?=some g) (ho:g.ho=0∨g.ho=1):fo cd ts F s ((j:Int)+1)=eW s.wh (decide ((j:Int)+1=s.th)) (kP cd t) f g.ho:=by
 unfold fo;rw[kb hz hg,jh ht,toN,Qa2,hf]
 have hp:cg ((j:Int)+1)=false:=by
  unfold cg;rw[Qx (show ¬(j:Int)+1=-1 by omega),Qx (show ¬(j:Int)+1=-2 by omega)];rfl
 by_cases w1:s.wh.wm=1
 ·rw[if_pos w1,Qx (by omega)];unfold eW gY;simp[w1]
 ·rw[if_neg w1];by_cases w2:s.wh.wm=2
  ·rw[if_pos w2,Qx (by omega)];unfold eW gY;simp[w2]
  ·rw[if_neg w2,if_neg (by rw[hp];simp)];rfl
theorem EL (hh:hoN F s.th=ho) (w:s.wh.wm=1):fo cd ts F s n=decide (n=-1 - ho):=by unfold fo;rw[if_pos w,hh]
theorem Fb (hh:hoN F s.th=ho) (w:s.wh.wm=2):fo cd ts F s n=decide (n=-1 - (1 - ho)):=by unfold fo;rw[if_neg (by omega),if_pos w,hh]
theorem Bx (w1:¬s.wh.wm=1) (w2:¬s.wh.wm=2) (h:cg n=true):fo cd ts F s n=false:=by unfold fo;rw[if_neg w1,if_neg w2,if_pos h]
theorem mc (ok:Nat→Prop) (r:Nat) (v:Value) (p:Pl) (gs:List Ent) (t:Th) (w:World) (B:RD ok w r v p gs):Calls prog 102 #[.pointer (some ⟨r,0,none⟩),thv t] w fun e w'=>e=.returned (.bool (unB (atC p gs t.card).1 (atX p gs t.card) t))∧w.grownBy w' none:=Dm _ t _ _ _ w fun X g=>jV ok r v p gs t X (B.keep g)
theorem rJ (ok:Nat→Prop) (r:Nat) (v:Value) (p:Pl) (gs:List Ent) (vt vf:Value) (ts:List Th) (F:List Fe) (s:Sd) (z:Nat) (g:Fe) (on:Int) (w:World) (B:RD ok w r v p gs) (A:thR.At w vt ts) (AF:feR.At w vf F) (hg:F[z]?=some g) (hz:s.th=(z:Int)+1) (hgo:g.ho=0∨g.ho=1) (hl:ts.length≤2048∧F.length=ts.length) (hon:cg on=true∨∃ (j:Nat) (t:Th),on=(j:Int)+1∧ts[j]?=some t∧t.place=4∧atX p gs t.card=0):Calls prog 167 #[.pointer (some ⟨r,0,none⟩),vt,vf,sdv s,.int .i64 on] w fun e w'=>e=.returned (.bool (fo (atC p gs) ts F s on))∧w.grownBy w' none:=by
 obtain⟨pt,ct,rfl⟩:=A.form;obtain⟨pf,cf,rfl⟩:=AF.form;have hzf:z<F.length:=(Qh hg).1;obtain⟨V,hV⟩:=Qe (w.alloc (.cells #[.int .i64 s.th,.int .i64 s.pl,.int .u8 s.wh.wn,.int .u8 s.wh.vb,.int .u8 s.wh.wm,.int .i64 s.wh.ct,.int .u8 s.wh.su,.int .u8 s.wh.tr,.int .u8 s.wh.mr,.string s.wh.nm] 64))
 have HV:QH (SdB V w.heap.size s∧w.grownBy V none∧RD ok V r v p gs∧thR.At V (.slice pt ts.length ct) ts∧feR.At V (.slice pf F.length cf) F):=by
  have gr:w.grownBy V none:=by rw[hV];exact QG
  exact⟨by rw[hV];exact aj _ _ _,gr,B.keep gr,A.keep gr,AF.keep gr⟩
 have z1:((z:Int))<(F.length:Int):=Int.ofNat_lt.2 hzf;have wz:wrap64 (z:Int)=(z:Int):=zq hzf (by rw[hl.2];exact hl.1);have wz2:IntKind.i64.wrap (z:Int)=(z:Int):=AO hzf (by rw[hl.2];exact hl.1);obtain⟨gF,oF,cF,eF,-⟩:=dh AF hzf;injection eF with eF eF2 eF3;clear eF2 eF3;subst eF;have Hz:QH (s.th=(z:Int)+1):=hz;have Hho:QH (hoN F s.th=g.ho∧(g.ho=0∨g.ho=1)):=⟨kb hz hg,hgo⟩
 unfold sdv;rw[hz]
 rcases hon with hp | ⟨j,t,rfl,hj,h4,hx0⟩
 ·have HP:QH (cg on=true∧F[z]?=some g):=⟨hp,hg⟩
  have h12:on=-1∨on=-2:=by unfold cg at hp;simpa using hp
  clear B A AF hg hl hzf hz hp hgo;go_enter func167,ntmps167;go_upto_region 1 with fail;rw[show w.alloc (.cells #[.int .i64 ((z:Int)+1),.int .i64 s.pl,.int .u8 s.wh.wn,.int .u8 s.wh.vb,.int .u8 s.wh.wm,.int .i64 s.wh.ct,.int .u8 s.wh.su,.int .u8 s.wh.tr,.int .u8 s.wh.mr,.string s.wh.nm] 64)=V from by rw[hV,Hz.o]];obtain⟨n0,hn0⟩:=Qe (w.heap.size);rw[←hn0] at HV ⊢;clear hV hn0;obtain⟨s0,-,-,-,s4,-,s6,s7,-⟩:=aQ HV.o.1;rw[Hz.o] at s0;obtain⟨g0,-⟩:=bP (ed HV.o.2.2.2.2 HP.o.2);obtain⟨ho,hho⟩:=Qe (g.ho);rw[←hho] at Hho g0;clear hho;have h01:=Hho.o.2;have HGE:QH (w.grownBy V none):=HV.o.2.1;by_cases w1:s.wh.wm=1
  ·have e1:(s.wh.wm == 1)=true:=(by rw[w1];rfl);have e2:(s.wh.wm == 2)=false:=(by rw[w1];rfl);have HQ:QH (fo (atC p gs) ts F s on=decide (on=-1 - ho)):=EL Hho.o.1 w1;clear w1 HV
   rcases h12 with rfl | rfl <;> rcases h01 with rfl | rfl <;> (go_wp2_with fail) <;> go_ret <;> exact⟨by rw[HQ.o] <;> rfl,HGE.o⟩
  ·have e1:(s.wh.wm == 1)=false:=(by simpa using w1);by_cases w2:s.wh.wm=2
   ·have e2:(s.wh.wm == 2)=true:=(by rw[w2];rfl);have HQ:QH (fo (atC p gs) ts F s on=decide (on=-1 - (1 - ho))):=Fb Hho.o.1 w2;clear w1 w2 HV
    rcases h12 with rfl | rfl <;> rcases h01 with rfl | rfl <;> (go_wp2_with fail) <;> go_ret <;> exact⟨by rw[HQ.o] <;> rfl,HGE.o⟩
   ·have e2:(s.wh.wm == 2)=false:=(by simpa using w2);have HQ:QH (fo (atC p gs) ts F s on=false):=Bx w1 w2 HP.o.1;clear w1 w2 HV
    rcases h12 with rfl | rfl <;> (go_wp2_with fail) <;> go_ret <;> exact⟨by rw[HQ.o] <;> rfl,HGE.o⟩
 ·have hjl:j<ts.length:=(Qh hj).1;have hjf:j<F.length:=by rw[hl.2];exact hjl
  obtain⟨f,hf⟩:∃ f,F[j]?=some f:=⟨_,Qg hjf⟩
  have HJ:QH (ts[j]?=some t∧F[j]?=some f∧F[z]?=some g∧t.place=4):=⟨hj,hf,hg,h4⟩
  obtain⟨kd,hkd⟩:=Qe ((atC p gs t.card).1.kd);have CU:=mc ok r v p gs t V HV.o.2.2.1;rw[show unB (atC p gs t.card).1 (atX p gs t.card) t=decide (kd=1) from by unfold unB;rw[hx0,Qy h4,hkd];simp] at CU;obtain⟨own,ho⟩:∃ own,(((j:Int)+1) == s.th)=own:=⟨_,rfl⟩
  have HAb:QH (fo (atC p gs) ts F s ((j:Int)+1)=bR s.wh own kd f g.ho):=by
   show _=_;rw[yc hj hf hz hg hgo,B1,←ho,hkd];unfold kP;rw[Qy h4,Qah];rfl
  have j0:¬((j:Int)+1<0):=by omega
  have j1:((j:Int))<(ts.length:Int):=Int.ofNat_lt.2 hjl;have j2:((j:Int))<(F.length:Int):=Int.ofNat_lt.2 hjf;have wj:wrap64 (j:Int)=(j:Int):=zq hjl hl.1;have wj2:IntKind.i64.wrap (j:Int)=(j:Int):=AO hjl hl.1;obtain⟨gT,oT,cT,eT,-⟩:=bz A hjl;injection eT with eT eT2 eT3;clear eT2 eT3;subst eT;rw[hz] at ho;unfold thv at CU;clear B A AF hj h4 hf hg hl hkd hjl hjf hzf hz hx0 hgo;go_enter func167,ntmps167;go_upto_region 1 with fail;rw[show w.alloc (.cells #[.int .i64 ((z:Int)+1),.int .i64 s.pl,.int .u8 s.wh.wn,.int .u8 s.wh.vb,.int .u8 s.wh.wm,.int .i64 s.wh.ct,.int .u8 s.wh.su,.int .u8 s.wh.tr,.int .u8 s.wh.mr,.string s.wh.nm] 64)=V from by rw[hV,Hz.o]];obtain⟨n0,hn0⟩:=Qe (w.heap.size);rw[←hn0] at HV ⊢;clear hV hn0;obtain⟨s0,-,-,-,s4,-,s6,s7,-⟩:=aQ HV.o.1;rw[Hz.o] at s0;obtain⟨g0,-⟩:=bP (ed HV.o.2.2.2.2 HJ.o.2.2.1);go_upto_region 5 with fail;clear g0;by_cases w4:s.wh.wm=4
  ·have e4:(s.wh.wm == 4)=true:=(by rw[w4];rfl);have HR:QH (bR s.wh own kd f g.ho=own):=sX w4;clear w4;go_wp2_with fail;go_ret;exact⟨by rw[HAb.o,HR.o] <;> rfl,HV.o.2.1⟩
  ·have e4:(s.wh.wm == 4)=false:=(by simpa using w4);obtain⟨t0,t1,t2,t3,t4,t5,t6,t7,t8,t9,t10⟩:=aZ (eJ HV.o.2.2.2.1 HJ.o.1);by_cases hk:kd=1
   ·rw[Qy hk] at CU;have HR:QH (bR s.wh own kd f g.ho=qL s.wh.wm s.wh own f g.ho):=lX w4 hk;clear w4 hk;go_wp2_with fail;refine CU.mono ?_;rintro e1 w1 ⟨rfl,g1⟩;obtain⟨Y,hY⟩:=Qe (w1.alloc (.cells #[.int .i64 f.ho,.int .u8 f.su,.int .u16 f.tr,.int .i64 f.po,.int .i64 f.he] 122))
    have HY:QH (FeB Y w1.heap.size f∧SdB Y n0 s∧w.grownBy Y none∧feR.At Y (.slice (some ⟨gF,oF,none⟩) F.length cf) F):=by
     have gr:w1.grownBy Y none:=(by rw[hY];exact QG);exact⟨by rw[hY];exact aj _ _ _,ag gr (ag g1 HV.o.1 (by simp)) (by simp),aa (aa HV.o.2.1 g1) gr,(HV.o.2.2.2.2.keep g1).keep gr⟩
    obtain⟨f0,f1,f2,f3,f4⟩:=bP (ed (HV.o.2.2.2.2.keep g1) HJ.o.2.1);clear CU g1 t0 t1 t2 t3 t4 t5 t6 t7 t8 t9 t10 s0 s4 s6 s7 e4;go_upto_region 10 with fail;rw[←hY];obtain⟨n1,hn1⟩:=Qe (w1.heap.size);rw[←hn1] at HY ⊢;clear hY hn1 f0 f1 f2 f3 f4;obtain⟨f0,f1,f2,-⟩:=kq HY.o.1;obtain⟨g0,-⟩:=bP (ed HY.o.2.2.2 HJ.o.2.2.1);obtain⟨s0,-,-,-,s4,-,s6,s7,-⟩:=aQ HY.o.2.1;rw[Hz.o] at s0;have HGE:QH (w.grownBy Y none):=HY.o.2.2.1;obtain⟨wm,hwm⟩:=Qe (s.wh.wm);rw[←hwm] at HR s4;clear hwm HY HV;by_cases w5:wm=5
    ·subst w5;have HQ:QH (bR s.wh own kd f g.ho=(f.ho == g.ho)):=(by show _=_;rw[HR.o];rfl);go_wp2_with fail;go_ret;exact⟨by rw[HAb.o,HQ.o] <;> rfl,HGE.o⟩
    ·have e5:(wm == 5)=false:=(by simpa using w5);by_cases w8:wm=8
     ·subst w8;by_cases q:f.ho=g.ho
      ·have eq:(f.ho == g.ho)=true:=(by rw[q];exact beq_self_eq_true _);have hn:(((j:Int)+1) != ((z:Int)+1))=!own:=(by rw[bne,ho]);have HQ:QH (bR s.wh own kd f g.ho=!own):=(by show _=_;rw[HR.o];show (decide (f.ho=g.ho) && !own)=_;rw[Qy q,Qah]);clear q w5;go_wp2_with fail;go_ret;exact⟨by rw[HAb.o,HQ.o] <;> rfl,HGE.o⟩
      ·have eq:(f.ho == g.ho)=false:=(by simpa using q);have HQ:QH (bR s.wh own kd f g.ho=false):=(by show _=_;rw[HR.o];show (decide (f.ho=g.ho) && !own)=_;rw[Qx q,Qai]);clear q w5;go_wp2_with fail;go_ret;exact⟨by rw[HAb.o,HQ.o] <;> rfl,HGE.o⟩
     ·have e8:(wm == 8)=false:=(by simpa using w8);by_cases w6:wm=6
      ·subst w6;have HQ:QH (bR s.wh own kd f g.ho=(f.ho != g.ho)):=(by show _=_;rw[HR.o];rfl);clear w5 w8;go_wp2_with fail;go_ret;exact⟨by rw[HAb.o,HQ.o] <;> rfl,HGE.o⟩
      ·have e6:(wm == 6)=false:=(by simpa using w6);by_cases w7:wm=7
       ·subst w7;have HQ:QH (bR s.wh own kd f g.ho=true):=(by show _=_;rw[HR.o];rfl);clear w5 w8 w6;go_wp2_with fail;go_ret;exact⟨by rw[HAb.o,HQ.o] <;> rfl,HGE.o⟩
       ·have e7:(wm == 7)=false:=(by simpa using w7);by_cases w9:wm=9
        ·subst w9;have HQ:QH (bR s.wh own kd f g.ho=(f.su == s.wh.su)):=(by show _=_;rw[HR.o];rfl);clear w5 w8 w6 w7;go_wp2_with fail;go_ret;exact⟨by rw[HAb.o,HQ.o] <;> rfl,HGE.o⟩
        ·have e9:(wm == 9)=false:=(by simpa using w9);by_cases w10:wm=10
         ·subst w10;have HQ:QH (bR s.wh own kd f g.ho=gH f.tr s.wh.tr):=(by show _=_;rw[HR.o];rfl);have CH:=jy f.tr s.wh.tr Y;clear w5 w8 w6 w7 w9;go_wp2_with fail;refine CH.mono ?_;rintro e3 w3 ⟨rfl,hw3⟩;rw[hw3];clear hw3 w3 CH;go_wp2_with fail;go_ret;exact⟨by rw[HAb.o,HQ.o] <;> rfl,HGE.o⟩
         ·have e10:(wm == 10)=false:=by simpa using w10
          have HQ:QH (bR s.wh own kd f g.ho=false):=by
           show _=_;rw[HR.o];unfold qL;rw[if_neg w5,if_neg w8,if_neg w6,if_neg w7,if_neg w9,if_neg w10]
          clear w5 w8 w6 w7 w9 w10;go_wp2_with fail;go_ret;exact⟨by rw[HAb.o,HQ.o] <;> rfl,HGE.o⟩
   ·rw[Qx hk] at CU;have HR:QH (bR s.wh own kd f g.ho=false):=rn w4 hk;clear w4 hk;go_wp2_with fail;refine CU.mono ?_;rintro e1 w1 ⟨rfl,g1⟩;have HG1:QH (w.grownBy w1 none):=aa HV.o.2.1 g1;clear CU g1;go_wp2_with fail;go_ret;exact⟨by rw[HAb.o,HR.o] <;> rfl,HG1.o⟩
structure RSw (ok:Nat→Prop) (w:World) (r:Nat) (v:Value) (p:Pl) (gs:List Ent) (vt vf:Value) (ts:List Th) (F:List Fe) (R:List Rw):Prop where
 rd:RD ok w r v p gs
 th:thR.At w vt ts
 fe:feR.At w vf F
 tab:Tab (gs.length:Int) (atC p gs) ts F R
 shut:p.shut=true
 few:ts.length≤2048
 good:kp (atC p gs)
theorem RSw.keep {r:Nat} (h:RSw ok w r v p gs vt vf ts F R) (g:w.grownBy w' none):RSw ok w' r v p gs vt vf ts F R:=⟨h.rd.keep g,h.th.keep g,h.fe.keep g,h.tab,h.shut,h.few,h.good⟩
theorem RSw.at0 {r:Nat} (h:RSw ok w r v p gs vt vf ts F R) {j:Nat} {t:Th} (ht:ts[j]?=some t):atX p gs t.card=0:=by
 have hl:j<F.length:=by rw[←h.tab.len];exact(Qh ht).1
 exact(mQ h.shut).2 (sq (h.tab.mays ht (Qg hl)).1)
theorem kS (h:dO ts n=true):∃ (j:Nat) (t:Th),n=(j:Int)+1∧ts[j]?=some t∧t.place=4:=by
 unfold dO at h;simp only[Bool.and_eq_true,decide_eq_true_eq] at h;obtain⟨h1,h2,h3⟩:=h;obtain⟨j,hj⟩:∃ j:Nat,n=(j:Int)+1:=⟨(n - 1).toNat,by omega⟩
 subst hj;have hjl:j<ts.length:=by omega
 have e:=Qg hjl;rw[jh e] at h3;exact⟨j,_,rfl,e,h3⟩
theorem GG (hm:aK ts h=true):cg h.on=true∨dO ts h.on=true:=by
 unfold aK at hm;split at hm
 ·simp only[Bool.and_eq_true,Bool.or_eq_true] at hm;exact hm.1
 ·split at hm
  ·exact Or.inr hm
  ·split at hm
   ·exact Or.inl hm
   ·cases hm
theorem Iu (hm:aK ts h=true) (h6:h.vb=6):dO ts h.on=true:=by
 unfold aK at hm;rw[if_neg (by omega),if_pos h6] at hm;exact hm
theorem l8 (ok:Nat→Prop) (r:Nat) (v:Value) (p:Pl) (gs:List Ent) (vt vf:Value) (ts:List Th) (F:List Fe) (R:List Rw) (s:Sd) (h:Hp) (w:World) (I:RSw ok w r v p gs vt vf ts F R) (hs:qr F s) (hm:aK ts h=true):Calls prog 104 #[.pointer (some ⟨r,0,none⟩),vt,vf,sdv s,hpv h] w fun e w'=>e=.returned (.bool (i6 (atC p gs) ts F s h))∧w.grownBy w' none:=by
 obtain⟨z,g,hz,hg,hgo,hv1,hv2⟩:=hs;obtain⟨V,hV⟩:=Qe ((w.alloc (.cells #[.int .i64 s.th,.int .i64 s.pl,.int .u8 s.wh.wn,.int .u8 s.wh.vb,.int .u8 s.wh.wm,.int .i64 s.wh.ct,.int .u8 s.wh.su,.int .u8 s.wh.tr,.int .u8 s.wh.mr,.string s.wh.nm] 64)).alloc (.cells #[.int .u8 h.vb,.int .i64 h.on,.int .i64 h.ct,.int .i64 h.ho,.bool h.vn,.bool h.dr] 87));have HG:QH (w.grownBy V none):=by rw[hV];exact am QG _
 have HB:QH (SdB V w.heap.size s∧HpB V (w.heap.size+1) h):=⟨by rw[hV];exact An _ _ _ _ _,by rw[hV];exact aT _ _ _ _⟩
 have HI:QH (RSw ok V r v p gs vt vf ts F R):=I.keep HG.o
 have hon:cg h.on=true∨∃ (j:Nat) (t:Th),h.on=(j:Int)+1∧ts[j]?=some t∧t.place=4∧atX p gs t.card=0:=by
  rcases GG hm with q | q
  ·exact Or.inl q
  ·obtain⟨j,t,a,b,c⟩:=kS q;exact Or.inr ⟨j,t,a,b,c,I.at0 b⟩
 have C1:=rJ ok r v p gs vt vf ts F s z g h.on V HI.o.rd HI.o.th HI.o.fe hg hz hgo ⟨I.few,I.tab.len.symm⟩ hon;obtain⟨pt,ct,rfl⟩:=I.th.form;obtain⟨pf,cf,rfl⟩:=I.fe.form;have Hm:QH (aK ts h=true):=hm;obtain⟨ab,hab⟩:=Qe (fo (atC p gs) ts F s h.on);have HS:QH (i6 (atC p gs) ts F s h=(ab && eU ts s.wh h)):=by show _=_;rw[hab];rfl
 rw[←hab] at C1;unfold sdv at C1 ⊢;unfold hpv;clear I hz hg hgo hm hon hab;go_enter func104,ntmps104;go_upto_region 1 with fail;rw[←hV];obtain⟨n0,h0⟩:=Qe (w.heap.size);obtain⟨n1,h1⟩:=Qe (n0+1);simp only[←h0,←h1] at HB ⊢;clear hV h0 h1;obtain⟨s0,s1,s2,s3,s4,s5,s6,s7,s8,s9⟩:=aQ HB.o.1;obtain⟨k0,k1,k2,k3,k4,k5⟩:=aJ HB.o.2;go_wp2_with fail;refine C1.mono ?_;rintro e1 w1 ⟨rfl,g1⟩;have HG1:QH (w.grownBy w1 none∧V.grownBy w1 none):=⟨aa HG.o g1,g1⟩
 clear C1 g1 s0 s1 s2 s3 s4 s5 s6 s7 s8 s9 k0 k1 k2 k3 k4 k5;cases ab with
 | false =>
  have HR:QH (i6 (atC p gs) ts F s h=false):=HS.o;go_wp2_with fail;go_ret;exact⟨by rw[HR.o] <;> rfl,HG1.o.1⟩
 | true =>
  have HR:QH (i6 (atC p gs) ts F s h=eU ts s.wh h):=by show _=_;rw[HS.o,Qah]
  obtain⟨s0,s1,s2,s3,s4,s5,s6,s7,s8,s9⟩:=aQ (ag HG1.o.2 HB.o.1 (by simp));obtain⟨k0,k1,k2,k3,k4,k5⟩:=aJ (ag HG1.o.2 HB.o.2 (by simp));by_cases v19:s.wh.vb=19
  ·have e19:(s.wh.vb != 19)=false:=(by rw[v19];rfl);by_cases w1':s.wh.wm=1
   ·have e1:(s.wh.wm == 1)=true:=(by rw[w1'];rfl);have HQ:QH (eU ts s.wh h=(h.vb == 3)):=(by show _=_;unfold eU;rw[if_neg (by omega),if_pos (Or.inl w1')];rfl);clear v19 w1';go_wp2_with fail;go_ret;exact⟨by rw[HR.o,HQ.o] <;> rfl,HG1.o.1⟩
   ·have e1:(s.wh.wm == 1)=false:=(by simpa using w1');by_cases w2':s.wh.wm=2
    ·have e2:(s.wh.wm == 2)=true:=(by rw[w2'];rfl);have HQ:QH (eU ts s.wh h=(h.vb == 3)):=(by show _=_;unfold eU;rw[if_neg (by omega),if_pos (Or.inr w2')];rfl);clear v19 w1' w2';go_wp2_with fail;go_ret;exact⟨by rw[HR.o,HQ.o] <;> rfl,HG1.o.1⟩
    ·have e2:(s.wh.wm == 2)=false:=(by simpa using w2');have HQ:QH (eU ts s.wh h=(decide (h.vb=6) && decide (s.wh.ct≤(thN ts h.on).m2))):=(by show _=_;unfold eU;rw[if_neg (by omega),if_neg (by omega)]);clear w1' w2' v19;by_cases h6:h.vb=6
     ·have e6:(h.vb == 6)=true:=(by rw[h6];rfl);obtain⟨j,t,ej,ht,-⟩:=kS (Iu Hm.o h6);have HQ2:QH (eU ts s.wh h=decide (s.wh.ct≤t.m2)):=(by show _=_;rw[HQ.o,Qy h6,Qah,ej,jh ht]);have hjl:j<ts.length:=(Qh ht).1;have j1:(j:Int)<(ts.length:Int):=Int.ofNat_lt.2 hjl;have j0:(0:Int)≤(j:Int):=(by omega);have wj:wrap64 (j:Int)=(j:Int):=(by have:=HI.o.few;unfold wrap64;omega);have wj2:IntKind.i64.wrap (j:Int)=(j:Int):=(by have:=HI.o.few;rw[IntWalk.i64_in _ (by omega)]);obtain⟨gT,oT,cT,eT,-⟩:=bz HI.o.th hjl;injection eT with eT eT2 eT3;clear eT2 eT3;subst eT;obtain⟨t0,t1,t2,t3,t4,t5,t6,t7,t8,t9,t10⟩:=aZ (eJ (HI.o.th.keep HG1.o.2) ht);rw[ej] at k1;clear h6 ej ht hjl;go_upto_region 8 with fail;go_quiet (fail);go_wp2_with fail;go_ret;exact⟨by rw[HR.o,HQ2.o] <;> rfl,aa HG1.o.1 (aA _ _ _)⟩
     ·have e6:(h.vb == 6)=false:=(by simpa using h6);have HQ2:QH (eU ts s.wh h=false):=(by show _=_;rw[HQ.o,Qx h6,Qai]);clear h6;go_upto_region 8 with fail;go_quiet (fail);go_wp2_with fail;go_ret;exact⟨by rw[HR.o,HQ2.o] <;> rfl,aa HG1.o.1 (aA _ _ _)⟩
  ·have e19:(s.wh.vb != 19)=true:=(by simpa using v19);have HQ:QH (eU ts s.wh h=(h.vb == 1)):=(by show _=_;unfold eU;rw[if_pos v19];rfl);clear v19;by_cases w1':s.wh.wm=1
   ·have e1:(s.wh.wm == 1)=true:=(by rw[w1'];rfl);clear w1';go_wp2_with fail;go_ret;exact⟨by rw[HR.o,HQ.o] <;> rfl,HG1.o.1⟩
   ·have e1:(s.wh.wm == 1)=false:=(by simpa using w1');clear w1';by_cases w2':s.wh.wm=2
    ·have e2:(s.wh.wm == 2)=true:=(by rw[w2'];rfl);clear w2';go_wp2_with fail;go_ret;exact⟨by rw[HR.o,HQ.o] <;> rfl,HG1.o.1⟩
    ·have e2:(s.wh.wm == 2)=false:=(by simpa using w2');clear w2';go_wp2_with fail;go_ret;exact⟨by rw[HR.o,HQ.o] <;> rfl,HG1.o.1⟩
