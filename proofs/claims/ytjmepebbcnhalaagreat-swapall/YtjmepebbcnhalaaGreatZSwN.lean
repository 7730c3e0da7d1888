/-

-/
import Derived.Test.YtjmepebbcnhalaaGreatZ42
import Derived.Deep.LoopGhost
namespace Go.Proofs.YtjmepebbcnhalaaGreat
set_option maxRecDepth 100000
set_option maxHeartbeats 4000000
open Go.RowKit
variable {w wr w':World} {v bv vt vf vl u:Value} {c n0 n1 B k base size m:Nat} {ts:List Th} {F:List Fe} {s:Sd} {h:Hp} {xs:List Value}

def swa (a:Hp) (v:Value) (g l:Int):Array Value:=#[.int .u8 a.vb,.int .i64 a.on,.int .i64 a.ct,.int .i64 a.ho,.bool a.vn,.bool a.dr,v,.int .i64 g,.int .i64 l]
def SwB (w:World) (n:Nat) (a:Hp) (v:Value) (g l:Int):Prop:=w.heap[n]?=some (.cells #[.int .u8 a.vb,.int .i64 a.on,.int .i64 a.ct,.int .i64 a.ho,.bool a.vn,.bool a.dr,v,.int .i64 g,.int .i64 l] 90 (0,0))
theorem bt {n:Nat} {a:Hp} {g l:Int} (H:SwB w n a v g l):w.cell? ⟨n,0,none⟩=some (.int .u8 a.vb)∧w.cell? ⟨n,1,none⟩=some (.int .i64 a.on)∧w.cell? ⟨n,2,none⟩=some (.int .i64 a.ct)∧w.cell? ⟨n,3,none⟩=some (.int .i64 a.ho)∧w.cell? ⟨n,4,none⟩=some (.bool a.vn)∧w.cell? ⟨n,5,none⟩=some (.bool a.dr)∧w.cell? ⟨n,6,none⟩=some v∧w.cell? ⟨n,7,none⟩=some (.int .i64 g)∧w.cell? ⟨n,8,none⟩=some (.int .i64 l) :=
 ⟨(ae H 0).trans rfl,(ae H 1).trans rfl,(ae H 2).trans rfl,(ae H 3).trans rfl,(ae H 4).trans rfl,(ae H 5).trans rfl,(ae H 6).trans rfl,(ae H 7).trans rfl,(ae H 8).trans rfl⟩
theorem sg {b:World} {x:Hp} {g l:Int} (h:Hp) (H:SwB b c x v g l):SwB ((((((b.setCell ⟨c,0,none⟩ (.int .u8 h.vb)).setCell ⟨c,1,none⟩ (.int .i64 h.on)).setCell ⟨c,2,none⟩ (.int .i64 h.ct)).setCell ⟨c,3,none⟩ (.int .i64 h.ho)).setCell ⟨c,4,none⟩ (.bool h.vn)).setCell ⟨c,5,none⟩ (.bool h.dr)) c h v g l:=by
 unfold SwB at H ⊢;have h9:=au (au (au (au (au (au H 0 (.int .u8 h.vb)) 1 (.int .i64 h.on)) 2 (.int .i64 h.ct)) 3 (.int .i64 h.ho)) 4 (.bool h.vn)) 5 (.bool h.dr);simp only[List.setIfInBounds_toArray,List.set_cons_zero,List.set_cons_succ] at h9;exact h9
theorem yF (hm:aK ts h=true) (hv:16≤s.wh.vb∧s.wh.vb≤19) (ho:hoN F s.th=0∨hoN F s.th=1) (hf:eU ts s.wh h=true) (hc:s.wh.vb=16→1≤s.wh.ct∧s.wh.ct≤99):gR F s h=Hp.none∨aK ts (gR F s h)=true:=by
 unfold gR fX;by_cases h19:s.wh.vb=19
 ·have:fm s (hoN F s.th) h=Hp.none:=by unfold fm;rw[if_neg (by omega),if_neg (by omega),if_neg (by omega)]
  rw[this];exact Or.inl (by split <;> rfl)
 ·have hv1:h.vb=1:=by unfold eU at hf;rw[if_pos h19] at hf;simpa using hf
  have hm':(cg h.on=true∨dO ts h.on=true)∧-9999≤h.ct∧h.ct≤9999:=by
   unfold aK at hm;rw[if_pos hv1] at hm;simp only[Bool.and_eq_true,Bool.or_eq_true,decide_eq_true_eq] at hm;exact⟨hm.1,hm.2.1,hm.2.2⟩
  cases hn:cw (fm s (hoN F s.th) h) with
  | true=>exact Or.inl rfl
  | false =>
   refine Or.inr ?_;show aK ts (fm s (hoN F s.th) h)=true
   have key:∀ c:Hp,c.vb=1→cw c=false→(cg c.on=true∨dO ts c.on=true)→c.ct≤9999→aK ts c=true:=fun c c1 c2 c3 c4=>by
    unfold cw at c2;rw[Qy c1,Qah,decide_eq_false_iff_not] at c2;unfold aK;rw[if_pos c1];simp only[Bool.and_eq_true,Bool.or_eq_true,decide_eq_true_eq];exact⟨c3,by omega,c4⟩
   have:s.wh.vb=16∨s.wh.vb=17∨s.wh.vb=18:=by omega
   rcases this with e | e | e
   ·have e1:fm s (hoN F s.th) h={ h with ct:=wrap64 (h.ct - s.wh.ct) }:=(by unfold fm;rw[if_pos e]);rw[e1] at hn ⊢;exact key _ hv1 hn hm'.1 (by have:=hc e;show wrap64 (h.ct - s.wh.ct)≤9999;unfold wrap64;omega)
   ·have e1:fm s (hoN F s.th) h={ h with ct:=min (wrap64 (2*h.ct)) 9999 }:=(by unfold fm;rw[if_neg (by omega),if_pos e]);rw[e1] at hn ⊢;exact key _ hv1 hn hm'.1 (Int.min_le_right _ _)
   ·have e1:fm s (hoN F s.th) h={ h with on:=wrap64 (-1 - wrap64 (1 - hoN F s.th)) }:=(by unfold fm;rw[if_neg (by omega),if_neg (by omega),if_pos e]);rw[e1] at hn ⊢;refine key _ hv1 hn (Or.inl ?_) hm'.2.2;show cg (wrap64 (-1 - wrap64 (1 - hoN F s.th)))=true
    rcases ho with q | q <;> rw[q]
    ·rw[show wrap64 (-1 - wrap64 (1 - 0))=-2 from by unfold wrap64;omega];rfl
    ·rw[show wrap64 (-1 - wrap64 (1 - 1))=-1 from by unfold wrap64;omega];rfl
theorem Gj (hm:aK ts h=true):¬h=Hp.none:=fun e=>by
 rw[e] at hm;unfold aK at hm;simp[Hp.none] at hm
structure AlQ (w wr:World) (n0 n1 n2 n3 B:Nat) (bv vt vf vl v:Value) (h:Hp) (x:Ss):Prop where
 sb:dg wr n0 bv vt vf vl
 hb:HpB wr n1 h
 rb:SwB wr n2 Hp.none (.slice none 0 0) 0 0
 eb:SwB wr n3 x.af v x.go x.li
 us:aV wr B v x.us
 gr:w.grownBy wr none
 hs:B≤wr.heap.size
theorem AlQ.keep {n2 n3:Nat} {x:Ss} (H:AlQ w wr n0 n1 n2 n3 B bv vt vf vl v h x) (g:wr.grownBy w' none):AlQ w w' n0 n1 n2 n3 B bv vt vf vl v h x:=⟨ag g H.sb (by simp),ag g H.hb (by simp),ag g H.rb (by simp),ag g H.eb (by simp),aC H.us g,aa H.gr g,Ql H.hs g.size⟩
theorem AlQ.field {n2 n3:Nat} {x y:Ss} (H:AlQ w wr n0 n1 n2 n3 B bv vt vf vl v h x) (h0:n0≠n3) (h1:n1≠n3) (h2:n2≠n3) (h3:w.heap.size≤n3) (e:SwB (wr.setCell ⟨n3,k,none⟩ u) n3 y.af v y.go y.li) (hu:y.us=x.us):AlQ w (wr.setCell ⟨n3,k,none⟩ u) n0 n1 n2 n3 B bv vt vf vl v h y:=by
 have g:wr.grownBy (wr.setCell ⟨n3,k,none⟩ u) (some n3):=al _ _ _ _;exact⟨ag g H.sb (fun q=>h0 (Qa1 q)),ag g H.hb (fun q=>h1 (Qa1 q)),ag g H.rb (fun q=>h2 (Qa1 q)),e,by rw[hu];exact bO H.us g H.eb (by decide),ak H.gr g (fun y e=>by cases e;exact h3),Ql H.hs g.size⟩
def dB (a:Hp) (v:Value) (g l:Int):Value:=.agg #[.int .u8 a.vb,.int .i64 a.on,.int .i64 a.ct,.int .i64 a.ho,.bool a.vn,.bool a.dr,v,.int .i64 g,.int .i64 l]
theorem dL (w:World) (n:Nat) (a b:Hp) (u v:Value) (g l g' l':Int) (h:SwB w n a u g l):SwB (w.setRow n (swa b v g' l')) n b v g' l':=setRow_heap w n _ _ _ _ h
theorem nM {e n:Nat} (h:w.ownsRow base e size v n xs) (hm:w.heap.size≤k):some k≠v.ownBlock:=fun q=>by
 have:=(Qa5 h k q.symm).2;omega
theorem qF {n:Nat} (h:m≤n) (hn:n≤64):m+1≤maxLen∧(m+1)*56≤140737488355328:=⟨by unfold maxLen;omega,by omega⟩
theorem CY (bv vt vf vl:Value) (n:Int) (cd:Int→Hd×List Pt) (ts:List Th) (F:List Fe) (L:List Sd) (h:Hp) (w:World) (I:NIn w bv vt vf vl n cd ts F L) (hm:aK ts h=true) (hl:L.length≤64) (hc:∀ s∈L,s.wh.vb=16→1≤s.wh.ct∧s.wh.ct≤99):Calls Tryz.prog 98 #[dn bv vt vf vl,hpv h] w fun e w'=>∃ p m c,e=.returned (dB (dm cd ts F L h (Ss.begin h)).af (.slice p m c) (dm cd ts F L h (Ss.begin h)).go (dm cd ts F L h (Ss.begin h)).li)∧aV w' w.heap.size (.slice p m c) (dm cd ts F L h (Ss.begin h)).us∧w.grownBy w' none:=by
 obtain⟨i0,hi,hz0,hz1,hz2⟩:=info_parts Tryz.linfoD;have hnq:=DO;have hgq:=wW;unfold hpa at hnq;obtain⟨pt,ct,rfl⟩:=I.at1.form;obtain⟨pf,cf,rfl⟩:=I.at2.form;obtain⟨pl,cl,rfl⟩:=I.at3.form;obtain⟨A0,hA0⟩:=Qe (w.alloc (.cells #[bv,.slice pt ts.length ct,.slice pf F.length cf,.slice pl L.length cl] 175));obtain⟨A1,hA1⟩:=Qe (A0.alloc (.cells #[.int .u8 h.vb,.int .i64 h.on,.int .i64 h.ct,.int .i64 h.ho,.bool h.vn,.bool h.dr] 87));obtain⟨A2,hA2⟩:=Qe (A1.alloc (.cells #[.int .u8 0,.int .i64 0,.int .i64 0,.int .i64 0,.bool false,.bool false,.slice none 0 0,.int .i64 0,.int .i64 0] 90));obtain⟨V,hV⟩:=Qe (A2.alloc (.cells #[.int .u8 h.vb,.int .i64 h.on,.int .i64 h.ct,.int .i64 h.ho,.bool h.vn,.bool h.dr,.slice none 0 0,.int .i64 0,.int .i64 0] 90));have g0:w.grownBy A0 none:=by rw[hA0];exact QG
 have g1:A0.grownBy A1 none:=by rw[hA1];exact QG
 have g2:A1.grownBy A2 none:=by rw[hA2];exact QG
 have g3:A2.grownBy V none:=by rw[hV];exact QG
 have e0:A0.heap.size=w.heap.size+1:=by rw[hA0,Qa3]
 have e1:A1.heap.size=w.heap.size+1+1:=by rw[hA1,Qa3,e0]
 have e2:A2.heap.size=w.heap.size+1+1+1:=by rw[hA2,Qa3,e1]
 have hC2:dg A2 w.heap.size bv (.slice pt ts.length ct) (.slice pf F.length cf) (.slice pl L.length cl):=ag (aa g1 g2) (by rw[hA0];exact aj w _ _) (by simp);have hH2:HpB A2 (w.heap.size+1) h:=ag g2 (by rw[←e0,hA1];exact aj _ _ _) (by simp);have hR2:SwB A2 (w.heap.size+1+1) Hp.none (.slice none 0 0) 0 0:=by rw[←e1,hA2];exact aj _ _ _
 have HA2:QH (HpB A2 (w.heap.size+1) h):=hH2;have HQ0:QH (AlQ w V w.heap.size (w.heap.size+1) (w.heap.size+1+1) (w.heap.size+1+1+1) V.heap.size bv (.slice pt ts.length ct) (.slice pf F.length cf) (.slice pl L.length cl) (.slice none 0 0) h (Ss.begin h)):=⟨ag g3 hC2 (by simp),ag g3 hH2 (by simp),ag g3 hR2 (by simp),by rw[←e2,hV];exact aj _ _ _,aB.Own.nil _ _ _ _,aa (aa (aa g0 g1) g2) g3,Qj _⟩
 have HI:QH (NIn w bv (.slice pt ts.length ct) (.slice pf F.length cf) (.slice pl L.length cl) n cd ts F L∧aK ts h=true∧L.length≤64∧∀ s∈L,s.wh.vb=16→1≤s.wh.ct∧s.wh.ct≤99):=⟨I,hm,hl,hc⟩
 have hA2':A2=((w.alloc (.cells #[bv,.slice pt ts.length ct,.slice pf F.length cf,.slice pl L.length cl] 175)).alloc (.cells #[.int .u8 h.vb,.int .i64 h.on,.int .i64 h.ct,.int .i64 h.ho,.bool h.vn,.bool h.dr] 87)).alloc (.cells #[.int .u8 0,.int .i64 0,.int .i64 0,.int .i64 0,.bool false,.bool false,.slice none 0 0,.int .i64 0,.int .i64 0] 90):=by rw[hA2,hA1,hA0]
 unfold dn hpv;have HV2:QH (V.heap.size=A2.heap.size+1∧A2.heap.size=w.heap.size+1+1+1):=⟨by rw[hV,Qa3],e2⟩
 clear I hm hl hc hA0 hA1 hA2 g0 g1 g2 g3 e0 e1 hC2 hH2 hR2;go_enter Tryz.func98,Tryz.ntmps98;go_upto_region 1 with fail;rw[←hA2'];clear hA2';rw[←e2] at HQ0;clear e2;obtain⟨n0,hn0⟩:=Qe (w.heap.size);have Hn0:QH (w.heap.size≤n0):=by rw[hn0];exact Qj _
 simp only[←hn0] at HQ0 HA2 HV2 ⊢;obtain⟨n1,hn1⟩:=Qe (n0+1);simp only[←hn1] at HQ0 HA2 HV2 ⊢;obtain⟨n2,hn2⟩:=Qe (n1+1);simp only[←hn2] at HQ0 HV2 ⊢;have HNs:QH (n1=n0+1∧n2=n1+1):=⟨hn1,hn2⟩
 clear hn0 hn1 hn2;obtain⟨x0,x1,x2,x3,x4,x5⟩:=aJ HA2.o;go_upto_region 2 with fail;rw[←hV];obtain⟨n3,hn3⟩:=Qe (A2.heap.size);rw[←hn3] at HQ0 HV2 ⊢
 have Hne:QH ((n0≠n3∧n1≠n3∧n2≠n3∧n1≠n2∧n0≠n2)∧w.heap.size≤n2∧w.heap.size≤n3∧w.heap.size≤V.heap.size∧n3<V.heap.size):=by
  have a:=HV2.o;have b:=Hn0.o;have c:=HNs.o;exact⟨⟨by omega,by omega,by omega,by omega,by omega⟩,by omega,by omega,by omega,by omega⟩
 obtain⟨B,hB⟩:=Qe (V.heap.size);rw[←hB] at HQ0 Hne;clear hV hn3 hB HA2 HV2 x0 x1 x2 x3 x4 x5;go_loopg [] (ci L []) (fun gk wr=>∃ (x:Ss) (p:Option Addr) (m c:Nat),ci L x.us≤gk∧QH (AlQ w wr n0 n1 n2 n3 B bv (.slice pt ts.length ct) (.slice pf F.length cf) (.slice pl L.length cl) (.slice p m c) h x)∧QH (m=x.us.length∧m+ci L x.us≤L.length∧dm cd ts F L h x=dm cd ts F L h (Ss.begin h))∧(x.af=Hp.none∨aK ts x.af=true))
 case atStart=>exact⟨Ss.begin h,none,0,0,Qj _,HQ0.o,⟨rfl,by rw[Qa8];exact List.length_filter_le _ _,rfl⟩,Or.inr HI.o.2.1⟩
 case round =>
  clear HQ0;obtain⟨x,p,m,c,hgk,HQ,HE,hx⟩:=hrel;obtain⟨U,hU⟩:=Qe (wr);subst hU;have Hgk:QH (ci L x.us≤gk):=hgk;have Hx:QH (x.af=Hp.none∨aK ts x.af=true):=hx;clear hgk hx;obtain⟨y0,y1,y2,y3,y4,y5,y6,y7,y8⟩:=bt HQ.o.eb;have hq:=hnq x.af Hp.none;unfold Hp.none at hq;by_cases hz:x.af=Hp.none
  ·have hd:decide (x.af=(⟨0,0,0,0,false,false⟩:Hp))=true:=Qy hz;have HF:QH (dm cd ts F L h (Ss.begin h)=x):=(by show _=_;rw[←HE.o.2.2];exact qW hz);clear hz hnq;go_wp2_with (refine wpList_store_row rfl 90 (.tmp 4) (.tmp 50) rfl n2 (swa x.af (.slice p m c) x.go x.li) rfl rfl 90 _ HQ.o.rb (by kernel_rfl) rfl (by simp[swa,Value.oneCell']) ?_)
   obtain⟨Wr,hWr⟩:=Qe (U.setRow n2 (swa x.af (.slice p m c) x.go x.li));have HWr:QH (SwB Wr n2 x.af (.slice p m c) x.go x.li∧U.grownBy Wr (some n2)):=⟨by rw[hWr];exact dL U n2 _ x.af _ (.slice p m c) _ _ x.go x.li HQ.o.rb,by rw[hWr];exact az _ _ _⟩
   rw[←hWr];clear hWr;obtain⟨r0,r1,r2,r3,r4,r5,r6,r7,r8⟩:=bt HWr.o.1;refine bodyPost_ret (v:=dB x.af (.slice p m c) x.go x.li) (by simp[results,Tryz.results98,go_sem,dB,r0,r1,r2,r3,r4,r5,r6,r7,r8]) rfl ⟨p,m,c,by rw[HF.o],?_,?_⟩
   ·rw[HF.o];exact bj (bO HQ.o.us HWr.o.2 HQ.o.rb (by decide)) Hne.o.2.2.2.1
   ·exact ak HQ.o.gr HWr.o.2 (fun y e=>by cases e;exact Hne.o.2.1)
  ·have hd:decide (x.af=(⟨0,0,0,0,false,false⟩:Hp))=false:=Qx hz;have hmy:=Hx.o.resolve_left hz;have CN:=rp bv (.slice pt ts.length ct) (.slice pf F.length cf) (.slice pl L.length cl) (.slice p m c) n cd ts F L x.us x.af U (HI.o.1.keep HQ.o.gr) (aB.Own.at HQ.o.us) hmy;unfold dn at CN;unfold hpv at CN;have Hz:QH (¬x.af=Hp.none∧aK ts x.af=true):=⟨hz,hmy⟩
   obtain⟨c0,c1,c2,c3⟩:=bg HQ.o.sb;clear hz hmy hnq;go_wp2_with fail;refine CN.mono ?_;rintro e1 w1 ⟨rfl,g1⟩;have HQ1:QH (AlQ w w1 n0 n1 n2 n3 B bv (.slice pt ts.length ct) (.slice pf F.length cf) (.slice pl L.length cl) (.slice p m c) h x):=HQ.o.keep g1;have HUs:QH (U.heap.size≤w1.heap.size):=g1.size;obtain⟨N,hN⟩:=Qe (gU cd ts F L x.af x.us);have HN:QH (gU cd ts F L x.af x.us=N):=hN.symm;rw[←hN];obtain⟨a,ha⟩:=Qe (mA F x.af N);have Ha:QH (a=mA F x.af N):=ha;rw[←ha];obtain⟨s,hs⟩:=Qe (mK N);have Hs:QH (s=mK N):=hs;rw[←hs];obtain⟨Z,hZ⟩:=Qe ((((w1.alloc (.cells #[.int .u8 0,.int .i64 0,.int .i64 0,.int .i64 0,.bool false,.bool false] 87)).alloc (.cells #[.int .i64 0,.int .i64 0,.int .u8 0,.int .u8 0,.int .u8 0,.int .i64 0,.int .u8 0,.int .u8 0,.int .u8 0,.string ⟨#[]⟩] 64)).setRow w1.heap.size (hpa a)).setRow (w1.heap.size+1) (sda s));have b0:HpB ((w1.alloc (.cells #[.int .u8 0,.int .i64 0,.int .i64 0,.int .i64 0,.bool false,.bool false] 87)).alloc (.cells #[.int .i64 0,.int .i64 0,.int .u8 0,.int .u8 0,.int .u8 0,.int .i64 0,.int .u8 0,.int .u8 0,.int .u8 0,.string ⟨#[]⟩] 64)) w1.heap.size Hp.none:=ag QG (aj w1 _ _) (by simp);have b1:SdB ((w1.alloc (.cells #[.int .u8 0,.int .i64 0,.int .i64 0,.int .i64 0,.bool false,.bool false] 87)).alloc (.cells #[.int .i64 0,.int .i64 0,.int .u8 0,.int .u8 0,.int .u8 0,.int .i64 0,.int .u8 0,.int .u8 0,.int .u8 0,.string ⟨#[]⟩] 64)) (w1.heap.size+1) Sd.none:=aT _ _ _ _;have b2:SdB (((w1.alloc (.cells #[.int .u8 0,.int .i64 0,.int .i64 0,.int .i64 0,.bool false,.bool false] 87)).alloc (.cells #[.int .i64 0,.int .i64 0,.int .u8 0,.int .u8 0,.int .u8 0,.int .i64 0,.int .u8 0,.int .u8 0,.int .u8 0,.string ⟨#[]⟩] 64)).setRow w1.heap.size (hpa a)) (w1.heap.size+1) Sd.none:=ag (az _ _ _) b1 (fun q=>by have:=Qa1 q;omega);have HB:QH (HpB ((w1.alloc (.cells #[.int .u8 0,.int .i64 0,.int .i64 0,.int .i64 0,.bool false,.bool false] 87)).alloc (.cells #[.int .i64 0,.int .i64 0,.int .u8 0,.int .u8 0,.int .u8 0,.int .i64 0,.int .u8 0,.int .u8 0,.int .u8 0,.string ⟨#[]⟩] 64)) w1.heap.size Hp.none∧SdB (((w1.alloc (.cells #[.int .u8 0,.int .i64 0,.int .i64 0,.int .i64 0,.bool false,.bool false] 87)).alloc (.cells #[.int .i64 0,.int .i64 0,.int .u8 0,.int .u8 0,.int .u8 0,.int .i64 0,.int .u8 0,.int .u8 0,.int .u8 0,.string ⟨#[]⟩] 64)).setRow w1.heap.size (hpa a)) (w1.heap.size+1) Sd.none):=⟨b0,b2⟩
   have HZ:QH (HpB Z w1.heap.size a∧SdB Z (w1.heap.size+1) s∧w1.grownBy Z none):=by
    rw[hZ];refine⟨ag (az _ _ _) (setRow_heap _ _ _ _ _ _ b0) (fun q=>by have:=Qa1 q;omega),setRow_heap _ _ _ _ _ _ b2,?_⟩;exact ak (ak (am QG _) (az _ _ _) (fun y e=>by cases e;exact Qj _)) (az _ _ _) (fun y e=>by cases e;omega)
   clear CN g1 hN ha hs b0 b1 b2 y0 y1 y2 y3 y4 y5 y6 y7 y8 c0 c1 c2 c3 hq hd HQ;go_upto_region 4 with (first | (refine wpList_store_row rfl 87 (.tmp 6) (.tmp 22) rfl w1.heap.size (hpa a) rfl rfl 87 _ HB.o.1 (by kernel_rfl) rfl (by simp[hpa,Value.oneCell']) ?_) | (refine wpList_store_row rfl 64 (.tmp 7) (.tmp 23) rfl (w1.heap.size+1) (sda s) rfl rfl 64 _ HB.o.2 (by kernel_rfl) rfl (by simp[sda,Value.oneCell']) ?_))
   rw[←hZ];obtain⟨n6,h6⟩:=Qe (w1.heap.size);rw[←h6] at HZ HUs ⊢;obtain⟨n7,h7⟩:=Qe (n6+1);rw[←h7] at HZ ⊢;have Hn6:QH (n6=w1.heap.size∧n7=n6+1):=⟨h6,h7⟩
   clear hZ h6 h7 HB;have HQ2:QH (AlQ w Z n0 n1 n2 n3 B bv (.slice pt ts.length ct) (.slice pf F.length cf) (.slice pl L.length cl) (.slice p m c) h x):=HQ1.o.keep HZ.o.2.2;obtain⟨y0,y1,y2,y3,y4,y5,y6,y7,y8⟩:=bt HQ2.o.eb;cases N with
   | none =>
    have HF:QH (dm cd ts F L h (Ss.begin h)=x):=(by show _=_;rw[←HE.o.2.2];exact uZ HN.o);simp only[Option.isSome_none];go_wp2_with (refine wpList_store_row rfl 90 (.tmp 4) (.tmp 27) rfl n2 (swa x.af (.slice p m c) x.go x.li) rfl rfl 90 _ HQ2.o.rb (by kernel_rfl) rfl (by simp[swa,Value.oneCell']) ?_)
    obtain⟨Wr,hWr⟩:=Qe (Z.setRow n2 (swa x.af (.slice p m c) x.go x.li));have HWr:QH (SwB Wr n2 x.af (.slice p m c) x.go x.li∧Z.grownBy Wr (some n2)):=⟨by rw[hWr];exact dL Z n2 _ x.af _ (.slice p m c) _ _ x.go x.li HQ2.o.rb,by rw[hWr];exact az _ _ _⟩
    rw[←hWr];clear hWr;obtain⟨r0,r1,r2,r3,r4,r5,r6,r7,r8⟩:=bt HWr.o.1;refine bodyPost_ret (v:=dB x.af (.slice p m c) x.go x.li) (by simp[results,Tryz.results98,go_sem,dB,r0,r1,r2,r3,r4,r5,r6,r7,r8]) rfl ⟨p,m,c,by rw[HF.o],?_,?_⟩
    ·rw[HF.o];exact bj (bO HQ2.o.us HWr.o.2 HQ2.o.rb (by decide)) Hne.o.2.2.2.1
    ·exact ak HQ2.o.gr HWr.o.2 (fun y e=>by cases e;exact Hne.o.2.1)
   | some t =>
    obtain rfl:s=t:=Hs.o;have Ha2:QH (a=gR F s x.af):=Ha.o;clear Ha Hs;simp only[Option.isSome_some];have HSt:QH (dm cd ts F L h x=dm cd ts F L h (x.more F h s)):=nC Hz.o.1 HN.o;have hmem:=mW HN.o;have HLt:QH (ci L (x.us++[s])<ci L x.us∧s∈L):=⟨ku hmem.2.1 hmem.1,hmem.1⟩
    have HMy:QH (gR F s x.af=Hp.none∨aK ts (gR F s x.af)=true):=by
     obtain⟨z,g,q1,q2,q3,q4,q5⟩:=HI.o.1.ok s hmem.1;refine yF Hz.o.2 ⟨q4,q5⟩ (by rw[kb q1 q2];exact q3) ?_ (HI.o.2.2.2 s hmem.1);have:=hmem.2.2;unfold i6 at this;simp only[Bool.and_eq_true] at this;exact this.2
    have HLn:QH (m+1≤maxLen∧(m+1)*56≤140737488355328):=qF (show m≤L.length by have:=HE.o.2.1;omega) HI.o.2.2.1;have HOa:QH (Z.ownsRow B 64 10 (.slice p m c) m (sdR.cs x.us)):=by have:=HQ2.o.us;unfold aV aB.Own at this;rw[←HE.o.1] at this;exact this
    have Hp7:QH (some n7≠(Value.slice p m c).ownBlock):=by
     have:=HQ1.o.us;unfold aV aB.Own at this;exact nM (k:=n7) this (by have:=Hn6.o;omega)
    have Hn36:QH (n6≠n3∧n7≠n3):=by
     have q1:=aY HQ1.o.eb;have q2:=Hn6.o;exact⟨by omega,by omega⟩
    clear hmem;go_upto_region 6 with fail;refine wp_region_held_drew (S:=fun w'=>HpB w' n6 a∧SdB w' n7 s) (by kernel_rfl) (⟨HZ.o.1,HZ.o.2.1⟩) (fun hHeld=>?_);refine QT 0 rfl (by intro w0 hSw;obtain⟨q0,q1,q2,q3,q4,q5⟩:=aJ hSw.1;go_simp;try with_reducible rfl) ?_;go_frame;refine QZ 1 rfl ?_;go_frame;refine QT 3 rfl (by intro w0 hSw;obtain⟨d0,d1,d2,d3,d4,d5,d6,d7,d8,d9⟩:=aQ hSw.2;go_simp;try with_reducible rfl) ?_;go_frame;refine wpAnyH_ready (rs:=[2,4]) (by kernel_rfl) (by simp) ?_;refine AllReadyH.cons rfl (fun K9 hK=>?_) (AllReadyH.cons rfl (fun K9 hK=>?_) AllReadyH.nil)
    ·simp only[QA,QB,QC];go_simp;refine hK.out _ _ (⟨HZ.o.1,HZ.o.2.1⟩) (fun hHeld3=>?_);clear hK K9;(try go_frame);refine QZ 6 rfl ?_;go_frame;clear y0 y1 y2 y3 y4 y5 y6 y7 y8;refine QR 4 rfl (fun K9 hK=>?_);go_simp;refine hK.out _ _ (⟨ag (aa QG (ai _)) HZ.o.1 (by simp),ag (aa QG (ai _)) HZ.o.2.1 (by simp)⟩) (fun hHeld3=>?_);clear hK K9;(try go_frame);obtain⟨Q,hQ⟩:=Qe ((Z.alloc (.cells (sdc s).toArray 64)).drew);have HGQ:QH (Z.grownBy Q none):=(by rw[hQ];exact aa QG (ai _));have HSr:QH (Src Q (.slice (some ⟨Z.heap.size,0,none⟩) 1 1) 1 10 (sdc s)):=(by rw[hQ];exact Src.keep (oW Z s) (ai _));unfold sdc at hQ;rw[←hQ];have HQ3:QH (AlQ w Q n0 n1 n2 n3 B bv (.slice pt ts.length ct) (.slice pf F.length cf) (.slice pl L.length cl) (.slice p m c) h x):=HQ2.o.keep HGQ.o;have HOb:QH (Q.ownsRow B 64 10 (.slice p m c) m (sdR.cs x.us)):=aC HOa.o HGQ.o;have HZ3:QH (HpB Q n6 a∧SdB Q n7 s):=⟨ag HGQ.o HZ.o.1 (by simp),ag HGQ.o HZ.o.2.1 (by simp)⟩
     clear hQ;refine QR 5 rfl (fun K9 hK=>?_);refine jM (.tmp 30) (.tmp 32) 30 rfl B 64 i0 _ 10 56 Tryz.underlying30 hi hz0 hz1 hz2 rfl (by decide) (.slice p m c) m (sdR.cs x.us) rfl HOb.o (.slice (some ⟨Z.heap.size,0,none⟩) 1 1) 1 (sdc s) rfl HSr.o (fx _) HLn.o.1 HLn.o.2 HQ3.o.hs ?_;intro v' w7 o7 g7 l7;obtain⟨w9,hw9⟩:=Qe (w7);subst hw9;obtain⟨v9,hv9⟩:=Qe (v');subst hv9;have HO9:QH (aV w9 B v9 (x.us++[s])):=aB.more o7 HE.o.1;have HG9:QH (Q.grownBy w9 (Value.slice p m c).ownBlock):=g7;clear o7 g7 l7;obtain⟨pv,kv,rfl⟩:=aB.Own.form HO9.o;rw[Qa,Qax,←HE.o.1] at HO9 ⊢;have HZ9:QH (HpB w9 n6 a∧SdB w9 n7 s):=⟨ag HG9.o HZ3.o.1 (bD HOb.o HZ3.o.1 (by decide)),ag HG9.o HZ3.o.2 Hp7.o⟩
     have HE9:QH (SwB w9 n3 x.af (.slice p m c) x.go x.li):=ag HG9.o HQ3.o.eb (bD HOb.o HQ3.o.eb (by decide));refine hK.out _ _ HZ9.o (fun hHeld4=>?_);clear hK K9;(try go_frame);obtain⟨y0,y1,y2,y3,y4,y5,y6,y7,y8⟩:=bt HE9.o;have yf:=fun i=>aq HE9.o i;refine QR 7 rfl (fun K9 hK=>?_);go_simp;refine hK.out _ _ (⟨ag (aU _ _ _ _ _ _ _ _) HZ9.o.1 (fun q=>Hn36.o.1 (Qa1 q)),ag (aU _ _ _ _ _ _ _ _) HZ9.o.2 (fun q=>Hn36.o.2 (Qa1 q))⟩) (fun hHeld5=>?_);clear hK K9;(try go_frame);obtain⟨Y,hY⟩:=Qe ((((((w9.setCell ⟨n3,0,none⟩ (.int .u8 a.vb)).setCell ⟨n3,1,none⟩ (.int .i64 a.on)).setCell ⟨n3,2,none⟩ (.int .i64 a.ct)).setCell ⟨n3,3,none⟩ (.int .i64 a.ho)).setCell ⟨n3,4,none⟩ (.bool a.vn)).setCell ⟨n3,5,none⟩ (.bool a.dr));rw[←hY];have HY:QH (SwB Y n3 a (.slice p m c) x.go x.li∧w9.grownBy Y (some n3)):=⟨by rw[hY];exact sg a HE9.o,by rw[hY];exact aU _ _ _ _ _ _ _ _⟩
     have HZY:QH (HpB Y n6 a∧SdB Y n7 s):=⟨ag HY.o.2 HZ9.o.1 (fun q=>Hn36.o.1 (Qa1 q)),ag HY.o.2 HZ9.o.2 (fun q=>Hn36.o.2 (Qa1 q))⟩
     have hHeldY:=HZY.o;clear hY y0 y1 y2 y3 y4 y5 y6 y7 y8 yf;refine QZ 8 rfl ?_;go_frame;obtain⟨y0,y1,y2,y3,y4,y5,y6,y7,y8⟩:=bt HY.o.1;have yf:=fun i=>aq HY.o.1 i;refine QR 9 rfl (fun K9 hK=>?_);go_simp;refine hK.out _ _ (⟨ag (al _ _ _ _) HZY.o.1 (fun q=>Hn36.o.1 (Qa1 q)),ag (al _ _ _ _) HZY.o.2 (fun q=>Hn36.o.2 (Qa1 q))⟩) (fun hHeld6=>?_);clear hK K9;(try go_frame);refine QD ?_;obtain⟨P,hP⟩:=Qe (Y.setCell ⟨n3,6,none⟩ (.slice pv (m+1) kv));rw[←hP];have HGP:QH (w9.grownBy P (some n3)):=by rw[hP];exact aa HY.o.2 (al _ _ _ _)
     have HP:QH (AlQ w P n0 n1 n2 n3 B bv (.slice pt ts.length ct) (.slice pf F.length cf) (.slice pl L.length cl) (.slice pv (m+1) kv) h ⟨a,x.us++[s],x.go,x.li⟩∧SdB P n7 s):=by
      refine⟨⟨?_,?_,?_,?_,?_,?_,?_⟩,?_⟩
      ·exact ag HGP.o (ag HG9.o HQ3.o.sb (bD HOb.o HQ3.o.sb (by decide))) (fun q=>Hne.o.1.1 (Qa1 q))
      ·exact ag HGP.o (ag HG9.o HQ3.o.hb (bD HOb.o HQ3.o.hb (by decide))) (fun q=>Hne.o.1.2.1 (Qa1 q))
      ·exact ag HGP.o (ag HG9.o HQ3.o.rb (bD HOb.o HQ3.o.rb (by decide))) (fun q=>Hne.o.1.2.2.1 (Qa1 q))
      ·rw[hP];have h9:=au HY.o.1 6 (.slice pv (m+1) kv);simp only[List.setIfInBounds_toArray,List.set_cons_zero,List.set_cons_succ] at h9;exact h9
      ·exact bO HO9.o HGP.o HE9.o (by decide)
      ·exact ak (ak HQ3.o.gr HG9.o (fun y e=>Ql Hne.o.2.2.2.1 (Qa5 HOb.o y e).1)) HGP.o (fun y e=>by cases e;exact Hne.o.2.2.1)
      ·exact Ql HQ3.o.hs (Ql HG9.o.size HGP.o.size)
      ·exact ag HGP.o HZ9.o.2 (fun q=>Hn36.o.2 (Qa1 q))
     clear hP y0 y1 y2 y3 y4 y5 y6 y7 y8 yf hHeld hHeld3 hHeld4 hHeld5 hHeld6 hHeldY HGP HY HZY HZ9 HE9 HO9 HG9 HQ3 HOb HZ3 HSr HGQ;obtain⟨x0,x1,x2,x3,x4,x5⟩:=aJ HP.o.1.hb;obtain⟨y0,y1,y2,y3,y4,y5,y6,y7,y8⟩:=bt HP.o.1.eb;have yf:=fun i=>aq HP.o.1.eb i;obtain⟨d0,d1,d2,d3,d4,d5,d6,d7,d8,d9⟩:=aQ HP.o.2;by_cases v6:h.vb=6
     ·have HX:QH (x.more F h s=⟨a,x.us++[s],s.wh.ct,x.li⟩):=(by show _=_;unfold Ss.more;rw[if_pos v6,if_neg (by omega),Ha2.o]);obtain⟨P2,hP2⟩:=Qe (P.setCell ⟨n3,7,none⟩ (.int .i64 s.wh.ct))
      have HP2:QH (AlQ w P2 n0 n1 n2 n3 B bv (.slice pt ts.length ct) (.slice pf F.length cf) (.slice pl L.length cl) (.slice pv (m+1) kv) h (x.more F h s)):=by
       rw[HX.o,hP2]
       exact HP.o.1.field Hne.o.1.1 Hne.o.1.2.1 Hne.o.1.2.2.1 Hne.o.2.2.1 (by
        have h9:=au HP.o.1.eb 7 (.int .i64 s.wh.ct);simp only[List.setIfInBounds_toArray,List.set_cons_zero,List.set_cons_succ] at h9
        exact h9) rfl
      rw[v6] at x0;clear v6;go_wp2_with fail;rw[←hP2];clear hP2;go_roundg (ci L (x.us++[s]))
      case measure=>exact Qal HLt.o.1 Hgk.o
      case rel=>exact⟨x.more F h s,pv,m+1,kv,Qj _,HP2.o,⟨by show _=(x.us++[s]).length;rw[Qa,←HE.o.1];rfl,by show m+1+ci L (x.us++[s])≤L.length;have:=HE.o.2.1;have:=HLt.o.1;omega,by rw[←HSt.o];exact HE.o.2.2⟩,HMy.o⟩
     have k6:(h.vb == 6)=false:=(by simpa using v6);by_cases v3:h.vb=3
     ·have HX:QH (x.more F h s=⟨a,x.us++[s],x.go,s.wh.ct⟩):=(by show _=_;unfold Ss.more;rw[if_neg v6,if_pos v3,Ha2.o]);obtain⟨P2,hP2⟩:=Qe (P.setCell ⟨n3,8,none⟩ (.int .i64 s.wh.ct))
      have HP2:QH (AlQ w P2 n0 n1 n2 n3 B bv (.slice pt ts.length ct) (.slice pf F.length cf) (.slice pl L.length cl) (.slice pv (m+1) kv) h (x.more F h s)):=by
       rw[HX.o,hP2]
       exact HP.o.1.field Hne.o.1.1 Hne.o.1.2.1 Hne.o.1.2.2.1 Hne.o.2.2.1 (by
        have h9:=au HP.o.1.eb 8 (.int .i64 s.wh.ct);simp only[List.setIfInBounds_toArray,List.set_cons_zero,List.set_cons_succ] at h9
        exact h9) rfl
      rw[v3] at x0;clear v6 v3 k6;go_wp2_with fail;rw[←hP2];clear hP2;go_roundg (ci L (x.us++[s]))
      case measure=>exact Qal HLt.o.1 Hgk.o
      case rel=>exact⟨x.more F h s,pv,m+1,kv,Qj _,HP2.o,⟨by show _=(x.us++[s]).length;rw[Qa,←HE.o.1];rfl,by show m+1+ci L (x.us++[s])≤L.length;have:=HE.o.2.1;have:=HLt.o.1;omega,by rw[←HSt.o];exact HE.o.2.2⟩,HMy.o⟩
     have k3:(h.vb == 3)=false:=(by simpa using v3);have HX:QH (x.more F h s=⟨a,x.us++[s],x.go,x.li⟩):=(by show _=_;unfold Ss.more;rw[if_neg v6,if_neg v3,Ha2.o]);have HP2:QH (AlQ w P n0 n1 n2 n3 B bv (.slice pt ts.length ct) (.slice pf F.length cf) (.slice pl L.length cl) (.slice pv (m+1) kv) h (x.more F h s)):=(by rw[HX.o];exact HP.o.1);clear v6 v3;go_wp2_with fail;go_roundg (ci L (x.us++[s]))
     case measure=>exact Qal HLt.o.1 Hgk.o
     case rel=>exact⟨x.more F h s,pv,m+1,kv,Qj _,HP2.o,⟨by show _=(x.us++[s]).length;rw[Qa,←HE.o.1];rfl,by show m+1+ci L (x.us++[s])≤L.length;have:=HE.o.2.1;have:=HLt.o.1;omega,by rw[←HSt.o];exact HE.o.2.2⟩,HMy.o⟩
    ·simp only[QA,QB,QC];go_simp;refine hK.out _ _ (⟨ag (aa QG (ai _)) HZ.o.1 (by simp),ag (aa QG (ai _)) HZ.o.2.1 (by simp)⟩) (fun hHeld3=>?_);clear hK K9;(try go_frame);obtain⟨Q,hQ⟩:=Qe ((Z.alloc (.cells (sdc s).toArray 64)).drew);have HGQ:QH (Z.grownBy Q none):=(by rw[hQ];exact aa QG (ai _));have HSr:QH (Src Q (.slice (some ⟨Z.heap.size,0,none⟩) 1 1) 1 10 (sdc s)):=(by rw[hQ];exact Src.keep (oW Z s) (ai _));unfold sdc at hQ;rw[←hQ];have HQ3:QH (AlQ w Q n0 n1 n2 n3 B bv (.slice pt ts.length ct) (.slice pf F.length cf) (.slice pl L.length cl) (.slice p m c) h x):=HQ2.o.keep HGQ.o;have HOb:QH (Q.ownsRow B 64 10 (.slice p m c) m (sdR.cs x.us)):=aC HOa.o HGQ.o;have HZ3:QH (HpB Q n6 a∧SdB Q n7 s):=⟨ag HGQ.o HZ.o.1 (by simp),ag HGQ.o HZ.o.2.1 (by simp)⟩
     clear hQ;have y6:=HGQ.o.cell y6 (by simp);refine QR 2 rfl (fun K9 hK=>?_);go_simp;refine hK.out _ _ (HZ3.o) (fun hHeld3=>?_);clear hK K9;(try go_frame);refine QZ 6 rfl ?_;go_frame;clear y0 y1 y2 y3 y4 y5 y6 y7 y8;refine QR 5 rfl (fun K9 hK=>?_);refine jM (.tmp 30) (.tmp 32) 30 rfl B 64 i0 _ 10 56 Tryz.underlying30 hi hz0 hz1 hz2 rfl (by decide) (.slice p m c) m (sdR.cs x.us) rfl HOb.o (.slice (some ⟨Z.heap.size,0,none⟩) 1 1) 1 (sdc s) rfl HSr.o (fx _) HLn.o.1 HLn.o.2 HQ3.o.hs ?_;intro v' w7 o7 g7 l7;obtain⟨w9,hw9⟩:=Qe (w7);subst hw9;obtain⟨v9,hv9⟩:=Qe (v');subst hv9;have HO9:QH (aV w9 B v9 (x.us++[s])):=aB.more o7 HE.o.1;have HG9:QH (Q.grownBy w9 (Value.slice p m c).ownBlock):=g7;clear o7 g7 l7;obtain⟨pv,kv,rfl⟩:=aB.Own.form HO9.o;rw[Qa,Qax,←HE.o.1] at HO9 ⊢;have HZ9:QH (HpB w9 n6 a∧SdB w9 n7 s):=⟨ag HG9.o HZ3.o.1 (bD HOb.o HZ3.o.1 (by decide)),ag HG9.o HZ3.o.2 Hp7.o⟩
     have HE9:QH (SwB w9 n3 x.af (.slice p m c) x.go x.li):=ag HG9.o HQ3.o.eb (bD HOb.o HQ3.o.eb (by decide));refine hK.out _ _ HZ9.o (fun hHeld4=>?_);clear hK K9;(try go_frame);obtain⟨y0,y1,y2,y3,y4,y5,y6,y7,y8⟩:=bt HE9.o;have yf:=fun i=>aq HE9.o i;refine QR 7 rfl (fun K9 hK=>?_);go_simp;refine hK.out _ _ (⟨ag (aU _ _ _ _ _ _ _ _) HZ9.o.1 (fun q=>Hn36.o.1 (Qa1 q)),ag (aU _ _ _ _ _ _ _ _) HZ9.o.2 (fun q=>Hn36.o.2 (Qa1 q))⟩) (fun hHeld5=>?_);clear hK K9;(try go_frame);obtain⟨Y,hY⟩:=Qe ((((((w9.setCell ⟨n3,0,none⟩ (.int .u8 a.vb)).setCell ⟨n3,1,none⟩ (.int .i64 a.on)).setCell ⟨n3,2,none⟩ (.int .i64 a.ct)).setCell ⟨n3,3,none⟩ (.int .i64 a.ho)).setCell ⟨n3,4,none⟩ (.bool a.vn)).setCell ⟨n3,5,none⟩ (.bool a.dr));rw[←hY];have HY:QH (SwB Y n3 a (.slice p m c) x.go x.li∧w9.grownBy Y (some n3)):=⟨by rw[hY];exact sg a HE9.o,by rw[hY];exact aU _ _ _ _ _ _ _ _⟩
     have HZY:QH (HpB Y n6 a∧SdB Y n7 s):=⟨ag HY.o.2 HZ9.o.1 (fun q=>Hn36.o.1 (Qa1 q)),ag HY.o.2 HZ9.o.2 (fun q=>Hn36.o.2 (Qa1 q))⟩
     have hHeldY:=HZY.o;clear hY y0 y1 y2 y3 y4 y5 y6 y7 y8 yf;refine QZ 8 rfl ?_;go_frame;obtain⟨y0,y1,y2,y3,y4,y5,y6,y7,y8⟩:=bt HY.o.1;have yf:=fun i=>aq HY.o.1 i;refine QR 9 rfl (fun K9 hK=>?_);go_simp;refine hK.out _ _ (⟨ag (al _ _ _ _) HZY.o.1 (fun q=>Hn36.o.1 (Qa1 q)),ag (al _ _ _ _) HZY.o.2 (fun q=>Hn36.o.2 (Qa1 q))⟩) (fun hHeld6=>?_);clear hK K9;(try go_frame);refine QD ?_;obtain⟨P,hP⟩:=Qe (Y.setCell ⟨n3,6,none⟩ (.slice pv (m+1) kv));rw[←hP];have HGP:QH (w9.grownBy P (some n3)):=by rw[hP];exact aa HY.o.2 (al _ _ _ _)
     have HP:QH (AlQ w P n0 n1 n2 n3 B bv (.slice pt ts.length ct) (.slice pf F.length cf) (.slice pl L.length cl) (.slice pv (m+1) kv) h ⟨a,x.us++[s],x.go,x.li⟩∧SdB P n7 s):=by
      refine⟨⟨?_,?_,?_,?_,?_,?_,?_⟩,?_⟩
      ·exact ag HGP.o (ag HG9.o HQ3.o.sb (bD HOb.o HQ3.o.sb (by decide))) (fun q=>Hne.o.1.1 (Qa1 q))
      ·exact ag HGP.o (ag HG9.o HQ3.o.hb (bD HOb.o HQ3.o.hb (by decide))) (fun q=>Hne.o.1.2.1 (Qa1 q))
      ·exact ag HGP.o (ag HG9.o HQ3.o.rb (bD HOb.o HQ3.o.rb (by decide))) (fun q=>Hne.o.1.2.2.1 (Qa1 q))
      ·rw[hP];have h9:=au HY.o.1 6 (.slice pv (m+1) kv);simp only[List.setIfInBounds_toArray,List.set_cons_zero,List.set_cons_succ] at h9;exact h9
      ·exact bO HO9.o HGP.o HE9.o (by decide)
      ·exact ak (ak HQ3.o.gr HG9.o (fun y e=>Ql Hne.o.2.2.2.1 (Qa5 HOb.o y e).1)) HGP.o (fun y e=>by cases e;exact Hne.o.2.2.1)
      ·exact Ql HQ3.o.hs (Ql HG9.o.size HGP.o.size)
      ·exact ag HGP.o HZ9.o.2 (fun q=>Hn36.o.2 (Qa1 q))
     clear hP y0 y1 y2 y3 y4 y5 y6 y7 y8 yf hHeld hHeld3 hHeld4 hHeld5 hHeld6 hHeldY HGP HY HZY HZ9 HE9 HO9 HG9 HQ3 HOb HZ3 HSr HGQ;obtain⟨x0,x1,x2,x3,x4,x5⟩:=aJ HP.o.1.hb;obtain⟨y0,y1,y2,y3,y4,y5,y6,y7,y8⟩:=bt HP.o.1.eb;have yf:=fun i=>aq HP.o.1.eb i;obtain⟨d0,d1,d2,d3,d4,d5,d6,d7,d8,d9⟩:=aQ HP.o.2;by_cases v6:h.vb=6
     ·have HX:QH (x.more F h s=⟨a,x.us++[s],s.wh.ct,x.li⟩):=(by show _=_;unfold Ss.more;rw[if_pos v6,if_neg (by omega),Ha2.o]);obtain⟨P2,hP2⟩:=Qe (P.setCell ⟨n3,7,none⟩ (.int .i64 s.wh.ct))
      have HP2:QH (AlQ w P2 n0 n1 n2 n3 B bv (.slice pt ts.length ct) (.slice pf F.length cf) (.slice pl L.length cl) (.slice pv (m+1) kv) h (x.more F h s)):=by
       rw[HX.o,hP2]
       exact HP.o.1.field Hne.o.1.1 Hne.o.1.2.1 Hne.o.1.2.2.1 Hne.o.2.2.1 (by
        have h9:=au HP.o.1.eb 7 (.int .i64 s.wh.ct);simp only[List.setIfInBounds_toArray,List.set_cons_zero,List.set_cons_succ] at h9
        exact h9) rfl
      rw[v6] at x0;clear v6;go_wp2_with fail;rw[←hP2];clear hP2;go_roundg (ci L (x.us++[s]))
      case measure=>exact Qal HLt.o.1 Hgk.o
      case rel=>exact⟨x.more F h s,pv,m+1,kv,Qj _,HP2.o,⟨by show _=(x.us++[s]).length;rw[Qa,←HE.o.1];rfl,by show m+1+ci L (x.us++[s])≤L.length;have:=HE.o.2.1;have:=HLt.o.1;omega,by rw[←HSt.o];exact HE.o.2.2⟩,HMy.o⟩
     have k6:(h.vb == 6)=false:=(by simpa using v6);by_cases v3:h.vb=3
     ·have HX:QH (x.more F h s=⟨a,x.us++[s],x.go,s.wh.ct⟩):=(by show _=_;unfold Ss.more;rw[if_neg v6,if_pos v3,Ha2.o]);obtain⟨P2,hP2⟩:=Qe (P.setCell ⟨n3,8,none⟩ (.int .i64 s.wh.ct))
      have HP2:QH (AlQ w P2 n0 n1 n2 n3 B bv (.slice pt ts.length ct) (.slice pf F.length cf) (.slice pl L.length cl) (.slice pv (m+1) kv) h (x.more F h s)):=by
       rw[HX.o,hP2]
       exact HP.o.1.field Hne.o.1.1 Hne.o.1.2.1 Hne.o.1.2.2.1 Hne.o.2.2.1 (by
        have h9:=au HP.o.1.eb 8 (.int .i64 s.wh.ct);simp only[List.setIfInBounds_toArray,List.set_cons_zero,List.set_cons_succ] at h9
        exact h9) rfl
      rw[v3] at x0;clear v6 v3 k6;go_wp2_with fail;rw[←hP2];clear hP2;go_roundg (ci L (x.us++[s]))
      case measure=>exact Qal HLt.o.1 Hgk.o
      case rel=>exact⟨x.more F h s,pv,m+1,kv,Qj _,HP2.o,⟨by show _=(x.us++[s]).length;rw[Qa,←HE.o.1];rfl,by show m+1+ci L (x.us++[s])≤L.length;have:=HE.o.2.1;have:=HLt.o.1;omega,by rw[←HSt.o];exact HE.o.2.2⟩,HMy.o⟩
     have k3:(h.vb == 3)=false:=(by simpa using v3);have HX:QH (x.more F h s=⟨a,x.us++[s],x.go,x.li⟩):=(by show _=_;unfold Ss.more;rw[if_neg v6,if_neg v3,Ha2.o]);have HP2:QH (AlQ w P n0 n1 n2 n3 B bv (.slice pt ts.length ct) (.slice pf F.length cf) (.slice pl L.length cl) (.slice pv (m+1) kv) h (x.more F h s)):=(by rw[HX.o];exact HP.o.1);clear v6 v3;go_wp2_with fail;go_roundg (ci L (x.us++[s]))
     case measure=>exact Qal HLt.o.1 Hgk.o
     case rel=>exact⟨x.more F h s,pv,m+1,kv,Qj _,HP2.o,⟨by show _=(x.us++[s]).length;rw[Qa,←HE.o.1];rfl,by show m+1+ci L (x.us++[s])≤L.length;have:=HE.o.2.1;have:=HLt.o.1;omega,by rw[←HSt.o];exact HE.o.2.2⟩,HMy.o⟩
