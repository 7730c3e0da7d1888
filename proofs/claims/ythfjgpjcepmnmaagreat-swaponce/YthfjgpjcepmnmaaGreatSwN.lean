/-
  
-/
import Derived.Test.YthfjgpjcepmnmaaGreatO0
import Derived.Test.YthfjgpjcepmnmaaGreatO43
import Derived.Deep.LoopGhost
namespace Go.Proofs.YthfjgpjcepmnmaaGreat
set_option maxRecDepth 100000
set_option maxHeartbeats 4000000
open Go.RowKit

def swa (a:Hp) (v:Value) (g l:Int):Array Value:=#[.int .u8 a.vb,.int .i64 a.on,.int .i64 a.ct,.int .i64 a.ho,.bool a.vn,.bool a.dr,v,.int .i64 g,.int .i64 l]
def SwB (w:World) (n:Nat) (a:Hp) (v:Value) (g l:Int):Prop:=w.heap[n]?=some (.cells #[.int .u8 a.vb,.int .i64 a.on,.int .i64 a.ct,.int .i64 a.ho,.bool a.vn,.bool a.dr,v,.int .i64 g,.int .i64 l] 45 (0,0))
theorem bz {w:World} {n:Nat} {a:Hp} {v:Value} {g l:Int} (H:SwB w n a v g l):w.cell? ⟨n,0,none⟩=some (.int .u8 a.vb)∧w.cell? ⟨n,1,none⟩=some (.int .i64 a.on)∧w.cell? ⟨n,2,none⟩=some (.int .i64 a.ct)∧w.cell? ⟨n,3,none⟩=some (.int .i64 a.ho)∧w.cell? ⟨n,4,none⟩=some (.bool a.vn)∧w.cell? ⟨n,5,none⟩=some (.bool a.dr)∧w.cell? ⟨n,6,none⟩=some v∧w.cell? ⟨n,7,none⟩=some (.int .i64 g)∧w.cell? ⟨n,8,none⟩=some (.int .i64 l) :=
 ⟨(ac H 0).trans rfl,(ac H 1).trans rfl,(ac H 2).trans rfl,(ac H 3).trans rfl,(ac H 4).trans rfl,(ac H 5).trans rfl,(ac H 6).trans rfl,(ac H 7).trans rfl,(ac H 8).trans rfl⟩
theorem wF {b:World} {c:Nat} {x:Hp} {v:Value} {g l:Int} (h:Hp) (H:SwB b c x v g l):SwB ((((((b.setCell ⟨c,0,none⟩ (.int .u8 h.vb)).setCell ⟨c,1,none⟩ (.int .i64 h.on)).setCell ⟨c,2,none⟩ (.int .i64 h.ct)).setCell ⟨c,3,none⟩ (.int .i64 h.ho)).setCell ⟨c,4,none⟩ (.bool h.vn)).setCell ⟨c,5,none⟩ (.bool h.dr)) c h v g l:=by
 unfold SwB at H ⊢
 have h9:=ar (ar (ar (ar (ar (ar H 0 (.int .u8 h.vb)) 1 (.int .i64 h.on)) 2 (.int .i64 h.ct)) 3 (.int .i64 h.ho)) 4 (.bool h.vn)) 5 (.bool h.dr)
 simp only[List.setIfInBounds_toArray,List.set_cons_zero,List.set_cons_succ] at h9
 exact h9
theorem wi {ts:List Th} {F:List Fe} {s:Sd} {h:Hp} (hm:bw ts h=true) (hv:16≤s.wh.vb∧s.wh.vb≤19) (ho:hoN F s.th=0∨hoN F s.th=1) (hf:ir ts s.wh h=true) (hc:s.wh.vb=16→1≤s.wh.ct∧s.wh.ct≤99):ia F s h=Hp.none∨bw ts (ia F s h)=true:=by
 unfold ia ip
 by_cases h19:s.wh.vb=19
 ·have:fM s (hoN F s.th) h=Hp.none:=by unfold fM;rw[if_neg (by omega),if_neg (by omega),if_neg (by omega)]
  rw[this]
  exact Or.inl (by split <;> rfl)
 ·have hv1:h.vb=1:=by unfold ir at hf;rw[if_pos h19] at hf;simpa using hf
  have hm':(dh h.on=true∨ej ts h.on=true)∧-9999≤h.ct∧h.ct≤9999:=by
   unfold bw at hm
   rw[if_pos hv1] at hm
   simp only[Bool.and_eq_true,Bool.or_eq_true,decide_eq_true_eq] at hm
   exact⟨hm.1,hm.2.1,hm.2.2⟩
  cases hn:cG (fM s (hoN F s.th) h) with
  | true=>exact Or.inl rfl
  | false =>
   refine Or.inr ?_
   show bw ts (fM s (hoN F s.th) h)=true
   have key:∀ c:Hp,c.vb=1→cG c=false→(dh c.on=true∨ej ts c.on=true)→c.ct≤9999→bw ts c=true:=fun c c1 c2 c3 c4=>by
    unfold cG at c2
    rw[decide_eq_true c1,Bool.true_and,decide_eq_false_iff_not] at c2
    unfold bw
    rw[if_pos c1]
    simp only[Bool.and_eq_true,Bool.or_eq_true,decide_eq_true_eq]
    exact⟨c3,by omega,c4⟩
   have:s.wh.vb=16∨s.wh.vb=17∨s.wh.vb=18:=by omega
   rcases this with e | e | e
   ·have e1:fM s (hoN F s.th) h={ h with ct:=wrap64 (h.ct - s.wh.ct) }:=by unfold fM;rw[if_pos e]
    rw[e1] at hn ⊢
    exact key _ hv1 hn hm'.1 (by have:=hc e;show wrap64 (h.ct - s.wh.ct)≤9999;unfold wrap64;omega)
   ·have e1:fM s (hoN F s.th) h={ h with ct:=min (wrap64 (2*h.ct)) 9999 }:=by unfold fM;rw[if_neg (by omega),if_pos e]
    rw[e1] at hn ⊢
    exact key _ hv1 hn hm'.1 (Int.min_le_right _ _)
   ·have e1:fM s (hoN F s.th) h={ h with on:=wrap64 (-1 - wrap64 (1 - hoN F s.th)) }:=by unfold fM;rw[if_neg (by omega),if_neg (by omega),if_pos e]
    rw[e1] at hn ⊢
    refine key _ hv1 hn (Or.inl ?_) hm'.2.2
    show dh (wrap64 (-1 - wrap64 (1 - hoN F s.th)))=true
    rcases ho with q | q <;> rw[q]
    ·rw[show wrap64 (-1 - wrap64 (1 - 0))=-2 from by unfold wrap64;omega];rfl
    ·rw[show wrap64 (-1 - wrap64 (1 - 1))=-1 from by unfold wrap64;omega];rfl
structure AlQ (w wr:World) (n0 n1 n2 n3 B:Nat) (bv vt vf vl v:Value) (h:Hp) (x:Ss):Prop where
 sb:bY wr n0 bv vt vf vl
 hb:HpB wr n1 h
 rb:SwB wr n2 Hp.none (.slice none 0 0) 0 0
 eb:SwB wr n3 x.af v x.go x.li
 us:bi wr B v x.us
 gr:w.grownBy wr none
 hs:B≤wr.heap.size
theorem AlQ.keep {w wr w':World} {n0 n1 n2 n3 B:Nat} {bv vt vf vl v:Value} {h:Hp} {x:Ss} (H:AlQ w wr n0 n1 n2 n3 B bv vt vf vl v h x) (g:wr.grownBy w' none):AlQ w w' n0 n1 n2 n3 B bv vt vf vl v h x:=⟨ae g H.sb (by simp),ae g H.hb (by simp),ae g H.rb (by simp),ae g H.eb (by simp),aA H.us g,aa H.gr g,Nat.le_trans H.hs g.size⟩
theorem AlQ.field {w wr:World} {n0 n1 n2 n3 B:Nat} {bv vt vf vl v:Value} {h:Hp} {x y:Ss} {k:Nat} {u:Value} (H:AlQ w wr n0 n1 n2 n3 B bv vt vf vl v h x) (h0:n0≠n3) (h1:n1≠n3) (h2:n2≠n3) (h3:w.heap.size≤n3) (e:SwB (wr.setCell ⟨n3,k,none⟩ u) n3 y.af v y.go y.li) (hu:y.us=x.us):AlQ w (wr.setCell ⟨n3,k,none⟩ u) n0 n1 n2 n3 B bv vt vf vl v h y:=by
 have g:wr.grownBy (wr.setCell ⟨n3,k,none⟩ u) (some n3):=aj _ _ _ _
 exact⟨ae g H.sb (fun q=>h0 (Option.some.inj q)),ae g H.hb (fun q=>h1 (Option.some.inj q)),ae g H.rb (fun q=>h2 (Option.some.inj q)),e,by rw[hu];exact bX H.us g H.eb (by decide),am H.gr g (fun y e=>by cases e;exact h3),Nat.le_trans H.hs g.size⟩
def dL (a:Hp) (v:Value) (g l:Int):Value:=.agg #[.int .u8 a.vb,.int .i64 a.on,.int .i64 a.ct,.int .i64 a.ho,.bool a.vn,.bool a.dr,v,.int .i64 g,.int .i64 l]
theorem fC (w:World) (n:Nat) (a b:Hp) (u v:Value) (g l g' l':Int) (h:SwB w n a u g l):SwB (w.setRow n (swa b v g' l')) n b v g' l':=setRow_heap w n _ _ _ _ h
theorem Ao {w:World} {base e size n k:Nat} {v:Value} {xs:List Value} (h:w.ownsRow base e size v n xs) (hm:w.heap.size≤k):some k≠v.ownBlock:=fun q=>by
 have:=(World.ownsRow.lt h k q.symm).2
 omega
theorem wY {m n:Nat} (h:m≤n) (hn:n≤64):m+1≤maxLen∧(m+1)*56≤140737488355328:=⟨by unfold maxLen;omega,by omega⟩
theorem A7 (bv vt vf vl:Value) (n:Int) (cd:Int→Hd×List Pt) (ts:List Th) (F:List Fe) (L:List Sd) (h:Hp) (w:World) (I:NIn w bv vt vf vl n cd ts F L) (hm:bw ts h=true) (hl:L.length≤64) (hc:∀ s∈L,s.wh.vb=16→1≤s.wh.ct∧s.wh.ct≤99):Calls Tryz.prog 66 #[ch bv vt vf vl,hpv h] w fun e w'=>∃ p m c,e=.returned (dL (cW cd ts F L h (Ss.begin h)).af (.slice p m c) (cW cd ts F L h (Ss.begin h)).go (cW cd ts F L h (Ss.begin h)).li)∧bi w' w.heap.size (.slice p m c) (cW cd ts F L h (Ss.begin h)).us∧w.grownBy w' none:=by
 obtain⟨i0,hi,hz0,hz1,hz2⟩:=info_parts Tryz.linfoD
 have hnq:=tQ
 have hgq:=nl
 unfold hpa at hnq
 obtain⟨pt,ct,rfl⟩:=I.at1.form
 obtain⟨pf,cf,rfl⟩:=I.at2.form
 obtain⟨pl,cl,rfl⟩:=I.at3.form
 obtain⟨A0,hA0⟩:∃ A0,A0=w.alloc (.cells #[bv,.slice pt ts.length ct,.slice pf F.length cf,.slice pl L.length cl] 136):=⟨_,rfl⟩
 obtain⟨A1,hA1⟩:∃ A1,A1=A0.alloc (.cells #[.int .u8 h.vb,.int .i64 h.on,.int .i64 h.ct,.int .i64 h.ho,.bool h.vn,.bool h.dr] 43):=⟨_,rfl⟩
 obtain⟨A2,hA2⟩:∃ A2,A2=A1.alloc (.cells #[.int .u8 0,.int .i64 0,.int .i64 0,.int .i64 0,.bool false,.bool false,.slice none 0 0,.int .i64 0,.int .i64 0] 45):=⟨_,rfl⟩
 obtain⟨V,hV⟩:∃ V,V=A2.alloc (.cells #[.int .u8 h.vb,.int .i64 h.on,.int .i64 h.ct,.int .i64 h.ho,.bool h.vn,.bool h.dr,.slice none 0 0,.int .i64 0,.int .i64 0] 45):=⟨_,rfl⟩
 have g0:w.grownBy A0 none:=by rw[hA0];exact World.grownBy_alloc _ _ none
 have g1:A0.grownBy A1 none:=by rw[hA1];exact World.grownBy_alloc _ _ none
 have g2:A1.grownBy A2 none:=by rw[hA2];exact World.grownBy_alloc _ _ none
 have g3:A2.grownBy V none:=by rw[hV];exact World.grownBy_alloc _ _ none
 have e0:A0.heap.size=w.heap.size+1:=by rw[hA0,World.size_alloc]
 have e1:A1.heap.size=w.heap.size+1+1:=by rw[hA1,World.size_alloc,e0]
 have e2:A2.heap.size=w.heap.size+1+1+1:=by rw[hA2,World.size_alloc,e1]
 have hC2:bY A2 w.heap.size bv (.slice pt ts.length ct) (.slice pf F.length cf) (.slice pl L.length cl):=ae (aa g1 g2) (by rw[hA0];exact ai w _ _) (by simp)
 have hH2:HpB A2 (w.heap.size+1) h:=ae g2 (by rw[←e0,hA1];exact ai _ _ _) (by simp)
 have hR2:SwB A2 (w.heap.size+1+1) Hp.none (.slice none 0 0) 0 0:=by rw[←e1,hA2];exact ai _ _ _
 have HA2:Hid (HpB A2 (w.heap.size+1) h):=hH2
 have HQ0:Hid (AlQ w V w.heap.size (w.heap.size+1) (w.heap.size+1+1) (w.heap.size+1+1+1) V.heap.size bv (.slice pt ts.length ct) (.slice pf F.length cf) (.slice pl L.length cl) (.slice none 0 0) h (Ss.begin h)):=⟨ae g3 hC2 (by simp),ae g3 hH2 (by simp),ae g3 hR2 (by simp),by rw[←e2,hV];exact ai _ _ _,ay.Own.nil _ _ _ _,aa (aa (aa g0 g1) g2) g3,Nat.le_refl _⟩
 have HI:Hid (NIn w bv (.slice pt ts.length ct) (.slice pf F.length cf) (.slice pl L.length cl) n cd ts F L∧bw ts h=true∧L.length≤64∧∀ s∈L,s.wh.vb=16→1≤s.wh.ct∧s.wh.ct≤99):=⟨I,hm,hl,hc⟩
 have hA2':A2=((w.alloc (.cells #[bv,.slice pt ts.length ct,.slice pf F.length cf,.slice pl L.length cl] 136)).alloc (.cells #[.int .u8 h.vb,.int .i64 h.on,.int .i64 h.ct,.int .i64 h.ho,.bool h.vn,.bool h.dr] 43)).alloc (.cells #[.int .u8 0,.int .i64 0,.int .i64 0,.int .i64 0,.bool false,.bool false,.slice none 0 0,.int .i64 0,.int .i64 0] 45):=by rw[hA2,hA1,hA0]
 unfold ch hpv
 have HV2:Hid (V.heap.size=A2.heap.size+1∧A2.heap.size=w.heap.size+1+1+1):=⟨by rw[hV,World.size_alloc],e2⟩
 clear I hm hl hc hA0 hA1 hA2 g0 g1 g2 g3 e0 e1 hC2 hH2 hR2
 go_enter Tryz.func66,Tryz.ntmps66
 go_upto_region 1 with fail
 rw[←hA2']
 clear hA2'
 rw[←e2] at HQ0
 clear e2
 obtain⟨n0,hn0⟩:∃ n0,n0=w.heap.size:=⟨_,rfl⟩
 have Hn0:Hid (w.heap.size≤n0):=by rw[hn0];exact Nat.le_refl _
 simp only[←hn0] at HQ0 HA2 HV2 ⊢
 obtain⟨n1,hn1⟩:∃ n1,n1=n0+1:=⟨_,rfl⟩
 simp only[←hn1] at HQ0 HA2 HV2 ⊢
 obtain⟨n2,hn2⟩:∃ n2,n2=n1+1:=⟨_,rfl⟩
 simp only[←hn2] at HQ0 HV2 ⊢
 have HNs:Hid (n1=n0+1∧n2=n1+1):=⟨hn1,hn2⟩
 clear hn0 hn1 hn2
 obtain⟨x0,x1,x2,x3,x4,x5⟩:=aL HA2.out
 go_upto_region 2 with fail
 rw[←hV]
 obtain⟨n3,hn3⟩:∃ n3,n3=A2.heap.size:=⟨_,rfl⟩
 rw[←hn3] at HQ0 HV2 ⊢
 have Hne:Hid ((n0≠n3∧n1≠n3∧n2≠n3∧n1≠n2∧n0≠n2)∧w.heap.size≤n2∧w.heap.size≤n3∧w.heap.size≤V.heap.size∧n3<V.heap.size):=by
  have a:=HV2.out;have b:=Hn0.out;have c:=HNs.out
  exact⟨⟨by omega,by omega,by omega,by omega,by omega⟩,by omega,by omega,by omega,by omega⟩
 obtain⟨B,hB⟩:∃ B,B=V.heap.size:=⟨_,rfl⟩
 rw[←hB] at HQ0 Hne
 clear hV hn3 hB HA2 HV2 x0 x1 x2 x3 x4 x5
 go_loopg [] (bU L []) (fun gk wr=>∃ (x:Ss) (p:Option Addr) (m c:Nat),bU L x.us≤gk∧Hid (AlQ w wr n0 n1 n2 n3 B bv (.slice pt ts.length ct) (.slice pf F.length cf) (.slice pl L.length cl) (.slice p m c) h x)∧Hid (m=x.us.length∧m+bU L x.us≤L.length∧cW cd ts F L h x=cW cd ts F L h (Ss.begin h))∧(x.af=Hp.none∨bw ts x.af=true))
 case atStart=>exact⟨Ss.begin h,none,0,0,Nat.le_refl _,HQ0.out,⟨rfl,by rw[Nat.zero_add];exact List.length_filter_le _ _,rfl⟩,Or.inr HI.out.2.1⟩
 case round =>
  clear HQ0
  obtain⟨x,p,m,c,hgk,HQ,HE,hx⟩:=hrel
  obtain⟨U,hU⟩:∃ U,U=wr:=⟨_,rfl⟩
  subst hU
  have Hgk:Hid (bU L x.us≤gk):=hgk
  have Hx:Hid (x.af=Hp.none∨bw ts x.af=true):=hx
  clear hgk hx
  obtain⟨y0,y1,y2,y3,y4,y5,y6,y7,y8⟩:=bz HQ.out.eb
  have hq:=hnq x.af Hp.none
  unfold Hp.none at hq
  by_cases hz:x.af=Hp.none
  ·have hd:decide (x.af=(⟨0,0,0,0,false,false⟩:Hp))=true:=decide_eq_true hz
   have HF:Hid (cW cd ts F L h (Ss.begin h)=x):=by show _=_;rw[←HE.out.2.2];exact wU hz
   clear hz hnq
   go_wp2_with (refine wpList_store_row rfl 45 (.tmp 4) (.tmp 50) rfl n2 (swa x.af (.slice p m c) x.go x.li) rfl rfl 45 _ HQ.out.rb (by kernel_rfl) rfl (by simp[swa,Value.oneCell']) ?_)
   obtain⟨Wr,hWr⟩:∃ Wr,Wr=U.setRow n2 (swa x.af (.slice p m c) x.go x.li):=⟨_,rfl⟩
   have HWr:Hid (SwB Wr n2 x.af (.slice p m c) x.go x.li∧U.grownBy Wr (some n2)):=⟨by rw[hWr];exact fC U n2 _ x.af _ (.slice p m c) _ _ x.go x.li HQ.out.rb,by rw[hWr];exact aO _ _ _⟩
   rw[←hWr]
   clear hWr
   obtain⟨r0,r1,r2,r3,r4,r5,r6,r7,r8⟩:=bz HWr.out.1
   refine bodyPost_ret (v:=dL x.af (.slice p m c) x.go x.li) (by simp[results,Tryz.results66,go_sem,dL,r0,r1,r2,r3,r4,r5,r6,r7,r8]) rfl ⟨p,m,c,by rw[HF.out],?_,?_⟩
   ·rw[HF.out];exact aY (bX HQ.out.us HWr.out.2 HQ.out.rb (by decide)) Hne.out.2.2.2.1
   ·exact am HQ.out.gr HWr.out.2 (fun y e=>by cases e;exact Hne.out.2.1)
  ·have hd:decide (x.af=(⟨0,0,0,0,false,false⟩:Hp))=false:=decide_eq_false hz
   have hmy:=Hx.out.resolve_left hz
   have CN:=nU bv (.slice pt ts.length ct) (.slice pf F.length cf) (.slice pl L.length cl) (.slice p m c) n cd ts F L x.us x.af U (HI.out.1.keep HQ.out.gr) (ay.Own.at HQ.out.us) hmy
   unfold ch at CN
   unfold hpv at CN
   have Hz:Hid (¬x.af=Hp.none∧bw ts x.af=true):=⟨hz,hmy⟩
   obtain⟨c0,c1,c2,c3⟩:=aR HQ.out.sb
   clear hz hmy hnq
   go_wp2_with fail
   refine CN.mono ?_
   rintro e1 w1 ⟨rfl,g1⟩
   have HQ1:Hid (AlQ w w1 n0 n1 n2 n3 B bv (.slice pt ts.length ct) (.slice pf F.length cf) (.slice pl L.length cl) (.slice p m c) h x):=HQ.out.keep g1
   have HUs:Hid (U.heap.size≤w1.heap.size):=g1.size
   obtain⟨N,hN⟩:∃ N,N=fl cd ts F L x.af x.us:=⟨_,rfl⟩
   have HN:Hid (fl cd ts F L x.af x.us=N):=hN.symm
   rw[←hN]
   obtain⟨a,ha⟩:∃ a,a=tz F x.af N:=⟨_,rfl⟩
   have Ha:Hid (a=tz F x.af N):=ha
   rw[←ha]
   obtain⟨s,hs⟩:∃ s,s=yO N:=⟨_,rfl⟩
   have Hs:Hid (s=yO N):=hs
   rw[←hs]
   obtain⟨Z,hZ⟩:∃ Z,Z=(((w1.alloc (.cells #[.int .u8 0,.int .i64 0,.int .i64 0,.int .i64 0,.bool false,.bool false] 43)).alloc (.cells #[.int .i64 0,.int .i64 0,.int .u8 0,.int .u8 0,.int .u8 0,.int .i64 0,.int .u8 0,.int .u8 0,.int .u8 0,.string ⟨#[]⟩] 40)).setRow w1.heap.size (hpa a)).setRow (w1.heap.size+1) (sda s):=⟨_,rfl⟩
   have b0:HpB ((w1.alloc (.cells #[.int .u8 0,.int .i64 0,.int .i64 0,.int .i64 0,.bool false,.bool false] 43)).alloc (.cells #[.int .i64 0,.int .i64 0,.int .u8 0,.int .u8 0,.int .u8 0,.int .i64 0,.int .u8 0,.int .u8 0,.int .u8 0,.string ⟨#[]⟩] 40)) w1.heap.size Hp.none:=ae (World.grownBy_alloc _ _ none) (ai w1 _ _) (by simp)
   have b1:SdB ((w1.alloc (.cells #[.int .u8 0,.int .i64 0,.int .i64 0,.int .i64 0,.bool false,.bool false] 43)).alloc (.cells #[.int .i64 0,.int .i64 0,.int .u8 0,.int .u8 0,.int .u8 0,.int .i64 0,.int .u8 0,.int .u8 0,.int .u8 0,.string ⟨#[]⟩] 40)) (w1.heap.size+1) Sd.none:=aP _ _ _ _
   have b2:SdB (((w1.alloc (.cells #[.int .u8 0,.int .i64 0,.int .i64 0,.int .i64 0,.bool false,.bool false] 43)).alloc (.cells #[.int .i64 0,.int .i64 0,.int .u8 0,.int .u8 0,.int .u8 0,.int .i64 0,.int .u8 0,.int .u8 0,.int .u8 0,.string ⟨#[]⟩] 40)).setRow w1.heap.size (hpa a)) (w1.heap.size+1) Sd.none:=ae (aO _ _ _) b1 (fun q=>by have:=Option.some.inj q;omega)
   have HB:Hid (HpB ((w1.alloc (.cells #[.int .u8 0,.int .i64 0,.int .i64 0,.int .i64 0,.bool false,.bool false] 43)).alloc (.cells #[.int .i64 0,.int .i64 0,.int .u8 0,.int .u8 0,.int .u8 0,.int .i64 0,.int .u8 0,.int .u8 0,.int .u8 0,.string ⟨#[]⟩] 40)) w1.heap.size Hp.none∧SdB (((w1.alloc (.cells #[.int .u8 0,.int .i64 0,.int .i64 0,.int .i64 0,.bool false,.bool false] 43)).alloc (.cells #[.int .i64 0,.int .i64 0,.int .u8 0,.int .u8 0,.int .u8 0,.int .i64 0,.int .u8 0,.int .u8 0,.int .u8 0,.string ⟨#[]⟩] 40)).setRow w1.heap.size (hpa a)) (w1.heap.size+1) Sd.none):=⟨b0,b2⟩
   have HZ:Hid (HpB Z w1.heap.size a∧SdB Z (w1.heap.size+1) s∧w1.grownBy Z none):=by
    rw[hZ]
    refine⟨ae (aO _ _ _) (setRow_heap _ _ _ _ _ _ b0) (fun q=>by have:=Option.some.inj q;omega),setRow_heap _ _ _ _ _ _ b2,?_⟩
    exact am (am (ak (World.grownBy_alloc _ _ none) _) (aO _ _ _) (fun y e=>by cases e;exact Nat.le_refl _)) (aO _ _ _) (fun y e=>by cases e;omega)
   clear CN g1 hN ha hs b0 b1 b2 y0 y1 y2 y3 y4 y5 y6 y7 y8 c0 c1 c2 c3 hq hd HQ
   go_upto_region 4 with (first | (refine wpList_store_row rfl 43 (.tmp 6) (.tmp 22) rfl w1.heap.size (hpa a) rfl rfl 43 _ HB.out.1 (by kernel_rfl) rfl (by simp[hpa,Value.oneCell']) ?_) | (refine wpList_store_row rfl 40 (.tmp 7) (.tmp 23) rfl (w1.heap.size+1) (sda s) rfl rfl 40 _ HB.out.2 (by kernel_rfl) rfl (by simp[sda,Value.oneCell']) ?_))
   rw[←hZ]
   obtain⟨n6,h6⟩:∃ n6,n6=w1.heap.size:=⟨_,rfl⟩
   rw[←h6] at HZ HUs ⊢
   obtain⟨n7,h7⟩:∃ n7,n7=n6+1:=⟨_,rfl⟩
   rw[←h7] at HZ ⊢
   have Hn6:Hid (n6=w1.heap.size∧n7=n6+1):=⟨h6,h7⟩
   clear hZ h6 h7 HB
   have HQ2:Hid (AlQ w Z n0 n1 n2 n3 B bv (.slice pt ts.length ct) (.slice pf F.length cf) (.slice pl L.length cl) (.slice p m c) h x):=HQ1.out.keep HZ.out.2.2
   obtain⟨y0,y1,y2,y3,y4,y5,y6,y7,y8⟩:=bz HQ2.out.eb
   cases N with
   | none =>
    have HF:Hid (cW cd ts F L h (Ss.begin h)=x):=by show _=_;rw[←HE.out.2.2];exact Ah HN.out
    simp only[Option.isSome_none]
    go_wp2_with (refine wpList_store_row rfl 45 (.tmp 4) (.tmp 27) rfl n2 (swa x.af (.slice p m c) x.go x.li) rfl rfl 45 _ HQ2.out.rb (by kernel_rfl) rfl (by simp[swa,Value.oneCell']) ?_)
    obtain⟨Wr,hWr⟩:∃ Wr,Wr=Z.setRow n2 (swa x.af (.slice p m c) x.go x.li):=⟨_,rfl⟩
    have HWr:Hid (SwB Wr n2 x.af (.slice p m c) x.go x.li∧Z.grownBy Wr (some n2)):=⟨by rw[hWr];exact fC Z n2 _ x.af _ (.slice p m c) _ _ x.go x.li HQ2.out.rb,by rw[hWr];exact aO _ _ _⟩
    rw[←hWr]
    clear hWr
    obtain⟨r0,r1,r2,r3,r4,r5,r6,r7,r8⟩:=bz HWr.out.1
    refine bodyPost_ret (v:=dL x.af (.slice p m c) x.go x.li) (by simp[results,Tryz.results66,go_sem,dL,r0,r1,r2,r3,r4,r5,r6,r7,r8]) rfl ⟨p,m,c,by rw[HF.out],?_,?_⟩
    ·rw[HF.out];exact aY (bX HQ2.out.us HWr.out.2 HQ2.out.rb (by decide)) Hne.out.2.2.2.1
    ·exact am HQ2.out.gr HWr.out.2 (fun y e=>by cases e;exact Hne.out.2.1)
   | some t =>
    obtain rfl:s=t:=Hs.out
    have Ha2:Hid (a=ia F s x.af):=Ha.out
    clear Ha Hs
    simp only[Option.isSome_some]
    have HSt:Hid (cW cd ts F L h x=cW cd ts F L h (x.more F h s)):=tC Hz.out.1 HN.out
    have hmem:=jy HN.out
    have HLt:Hid (bU L (x.us++[s])<bU L x.us∧s∈L):=⟨ll hmem.2.1 hmem.1,hmem.1⟩
    have HMy:Hid (ia F s x.af=Hp.none∨bw ts (ia F s x.af)=true):=by
     obtain⟨z,g,q1,q2,q3,q4,q5⟩:=HI.out.1.ok s hmem.1
     refine wi Hz.out.2 ⟨q4,q5⟩ (by rw[qL q1 q2];exact q3) ?_ (HI.out.2.2.2 s hmem.1)
     have:=hmem.2.2
     unfold jk at this
     simp only[Bool.and_eq_true] at this
     exact this.2
    have HLn:Hid (m+1≤maxLen∧(m+1)*56≤140737488355328):=wY (show m≤L.length by have:=HE.out.2.1;omega) HI.out.2.2.1
    have HOa:Hid (Z.ownsRow B 40 10 (.slice p m c) m (sdR.cs x.us)):=by have:=HQ2.out.us;unfold bi ay.Own at this;rw[←HE.out.1] at this;exact this
    have Hp7:Hid (some n7≠(Value.slice p m c).ownBlock):=by
     have:=HQ1.out.us
     unfold bi ay.Own at this
     exact Ao (k:=n7) this (by have:=Hn6.out;omega)
    have Hn36:Hid (n6≠n3∧n7≠n3):=by
     have q1:=bf HQ1.out.eb
     have q2:=Hn6.out
     exact⟨by omega,by omega⟩
    clear hmem
    go_upto_region 6 with fail
    refine wp_region_held_drew (S:=fun w'=>HpB w' n6 a∧SdB w' n7 s) (by kernel_rfl) (⟨HZ.out.1,HZ.out.2.1⟩) (fun hHeld=>?_)
    refine QT 0 rfl (by intro w0 hSw;obtain⟨q0,q1,q2,q3,q4,q5⟩:=aL hSw.1;go_simp;try with_reducible rfl) ?_
    go_frame
    refine QZ 1 rfl ?_
    go_frame
    refine QT 3 rfl (by intro w0 hSw;obtain⟨d0,d1,d2,d3,d4,d5,d6,d7,d8,d9⟩:=aT hSw.2;go_simp;try with_reducible rfl) ?_
    go_frame
    refine wpAnyH_ready (rs:=[2,4]) (by kernel_rfl) (by simp) ?_
    refine AllReadyH.cons rfl (fun K9 hK=>?_) (AllReadyH.cons rfl (fun K9 hK=>?_) AllReadyH.nil)
    ·simp only[QA,QB,QC]
     go_simp
     refine hK.out _ _ (⟨HZ.out.1,HZ.out.2.1⟩) (fun hHeld3=>?_)
     clear hK K9
     (try go_frame)
     refine QZ 6 rfl ?_
     go_frame
     clear y0 y1 y2 y3 y4 y5 y6 y7 y8
     refine QR 4 rfl (fun K9 hK=>?_)
     go_simp
     refine hK.out _ _ (⟨ae (aa (World.grownBy_alloc _ _ none) (ag _)) HZ.out.1 (by simp),ae (aa (World.grownBy_alloc _ _ none) (ag _)) HZ.out.2.1 (by simp)⟩) (fun hHeld3=>?_)
     clear hK K9
     (try go_frame)
     obtain⟨Q,hQ⟩:∃ Q,Q=(Z.alloc (.cells (sdc s).toArray 40)).drew:=⟨_,rfl⟩
     have HGQ:Hid (Z.grownBy Q none):=by rw[hQ];exact aa (World.grownBy_alloc _ _ none) (ag _)
     have HSr:Hid (Src Q (.slice (some ⟨Z.heap.size,0,none⟩) 1 1) 1 10 (sdc s)):=by rw[hQ];exact Src.keep (qE Z s) (ag _)
     unfold sdc at hQ
     rw[←hQ]
     have HQ3:Hid (AlQ w Q n0 n1 n2 n3 B bv (.slice pt ts.length ct) (.slice pf F.length cf) (.slice pl L.length cl) (.slice p m c) h x):=HQ2.out.keep HGQ.out
     have HOb:Hid (Q.ownsRow B 40 10 (.slice p m c) m (sdR.cs x.us)):=aA HOa.out HGQ.out
     have HZ3:Hid (HpB Q n6 a∧SdB Q n7 s):=⟨ae HGQ.out HZ.out.1 (by simp),ae HGQ.out HZ.out.2.1 (by simp)⟩
     clear hQ
     refine QR 5 rfl (fun K9 hK=>?_)
     refine iQ (.tmp 30) (.tmp 32) 27 rfl B 40 i0 _ 10 56 Tryz.underlying27 hi hz0 hz1 hz2 rfl (by decide) (.slice p m c) m (sdR.cs x.us) rfl HOb.out (.slice (some ⟨Z.heap.size,0,none⟩) 1 1) 1 (sdc s) rfl HSr.out (fL _) HLn.out.1 HLn.out.2 HQ3.out.hs ?_
     intro v' w7 o7 g7 l7
     obtain⟨w9,hw9⟩:∃ w9,w9=w7:=⟨_,rfl⟩
     subst hw9
     obtain⟨v9,hv9⟩:∃ v9,v9=v':=⟨_,rfl⟩
     subst hv9
     have HO9:Hid (bi w9 B v9 (x.us++[s])):=ay.more o7 HE.out.1
     have HG9:Hid (Q.grownBy w9 (Value.slice p m c).ownBlock):=g7
     clear o7 g7 l7
     obtain⟨pv,kv,rfl⟩:=ay.Own.form HO9.out
     rw[List.length_append,List.length_singleton,←HE.out.1] at HO9 ⊢
     have HZ9:Hid (HpB w9 n6 a∧SdB w9 n7 s):=⟨ae HG9.out HZ3.out.1 (bE HOb.out HZ3.out.1 (by decide)),ae HG9.out HZ3.out.2 Hp7.out⟩
     have HE9:Hid (SwB w9 n3 x.af (.slice p m c) x.go x.li):=ae HG9.out HQ3.out.eb (bE HOb.out HQ3.out.eb (by decide))
     refine hK.out _ _ HZ9.out (fun hHeld4=>?_)
     clear hK K9
     (try go_frame)
     obtain⟨y0,y1,y2,y3,y4,y5,y6,y7,y8⟩:=bz HE9.out
     have yf:=fun i=>ao HE9.out i
     refine QR 7 rfl (fun K9 hK=>?_)
     go_simp
     refine hK.out _ _ (⟨ae (aW _ _ _ _ _ _ _ _) HZ9.out.1 (fun q=>Hn36.out.1 (Option.some.inj q)),ae (aW _ _ _ _ _ _ _ _) HZ9.out.2 (fun q=>Hn36.out.2 (Option.some.inj q))⟩) (fun hHeld5=>?_)
     clear hK K9
     (try go_frame)
     obtain⟨Y,hY⟩:∃ Y,Y=(((((w9.setCell ⟨n3,0,none⟩ (.int .u8 a.vb)).setCell ⟨n3,1,none⟩ (.int .i64 a.on)).setCell ⟨n3,2,none⟩ (.int .i64 a.ct)).setCell ⟨n3,3,none⟩ (.int .i64 a.ho)).setCell ⟨n3,4,none⟩ (.bool a.vn)).setCell ⟨n3,5,none⟩ (.bool a.dr):=⟨_,rfl⟩
     rw[←hY]
     have HY:Hid (SwB Y n3 a (.slice p m c) x.go x.li∧w9.grownBy Y (some n3)):=⟨by rw[hY];exact wF a HE9.out,by rw[hY];exact aW _ _ _ _ _ _ _ _⟩
     have HZY:Hid (HpB Y n6 a∧SdB Y n7 s):=⟨ae HY.out.2 HZ9.out.1 (fun q=>Hn36.out.1 (Option.some.inj q)),ae HY.out.2 HZ9.out.2 (fun q=>Hn36.out.2 (Option.some.inj q))⟩
     have hHeldY:=HZY.out
     clear hY y0 y1 y2 y3 y4 y5 y6 y7 y8 yf
     refine QZ 8 rfl ?_
     go_frame
     obtain⟨y0,y1,y2,y3,y4,y5,y6,y7,y8⟩:=bz HY.out.1
     have yf:=fun i=>ao HY.out.1 i
     refine QR 9 rfl (fun K9 hK=>?_)
     go_simp
     refine hK.out _ _ (⟨ae (aj _ _ _ _) HZY.out.1 (fun q=>Hn36.out.1 (Option.some.inj q)),ae (aj _ _ _ _) HZY.out.2 (fun q=>Hn36.out.2 (Option.some.inj q))⟩) (fun hHeld6=>?_)
     clear hK K9
     (try go_frame)
     refine QD ?_
     obtain⟨P,hP⟩:∃ P,P=Y.setCell ⟨n3,6,none⟩ (.slice pv (m+1) kv):=⟨_,rfl⟩
     rw[←hP]
     have HGP:Hid (w9.grownBy P (some n3)):=by rw[hP];exact aa HY.out.2 (aj _ _ _ _)
     have HP:Hid (AlQ w P n0 n1 n2 n3 B bv (.slice pt ts.length ct) (.slice pf F.length cf) (.slice pl L.length cl) (.slice pv (m+1) kv) h ⟨a,x.us++[s],x.go,x.li⟩∧SdB P n7 s):=by
      refine⟨⟨?_,?_,?_,?_,?_,?_,?_⟩,?_⟩
      ·exact ae HGP.out (ae HG9.out HQ3.out.sb (bE HOb.out HQ3.out.sb (by decide))) (fun q=>Hne.out.1.1 (Option.some.inj q))
      ·exact ae HGP.out (ae HG9.out HQ3.out.hb (bE HOb.out HQ3.out.hb (by decide))) (fun q=>Hne.out.1.2.1 (Option.some.inj q))
      ·exact ae HGP.out (ae HG9.out HQ3.out.rb (bE HOb.out HQ3.out.rb (by decide))) (fun q=>Hne.out.1.2.2.1 (Option.some.inj q))
      ·rw[hP]
       have h9:=ar HY.out.1 6 (.slice pv (m+1) kv)
       simp only[List.setIfInBounds_toArray,List.set_cons_zero,List.set_cons_succ] at h9
       exact h9
      ·exact bX HO9.out HGP.out HE9.out (by decide)
      ·exact am (am HQ3.out.gr HG9.out (fun y e=>Nat.le_trans Hne.out.2.2.2.1 (World.ownsRow.lt HOb.out y e).1)) HGP.out (fun y e=>by cases e;exact Hne.out.2.2.1)
      ·exact Nat.le_trans HQ3.out.hs (Nat.le_trans HG9.out.size HGP.out.size)
      ·exact ae HGP.out HZ9.out.2 (fun q=>Hn36.out.2 (Option.some.inj q))
     clear hP y0 y1 y2 y3 y4 y5 y6 y7 y8 yf hHeld hHeld3 hHeld4 hHeld5 hHeld6 hHeldY HGP HY HZY HZ9 HE9 HO9 HG9 HQ3 HOb HZ3 HSr HGQ
     obtain⟨x0,x1,x2,x3,x4,x5⟩:=aL HP.out.1.hb
     obtain⟨y0,y1,y2,y3,y4,y5,y6,y7,y8⟩:=bz HP.out.1.eb
     have yf:=fun i=>ao HP.out.1.eb i
     obtain⟨d0,d1,d2,d3,d4,d5,d6,d7,d8,d9⟩:=aT HP.out.2
     by_cases v6:h.vb=6
     ·have HX:Hid (x.more F h s=⟨a,x.us++[s],s.wh.ct,x.li⟩):=by show _=_;unfold Ss.more;rw[if_pos v6,if_neg (by omega),Ha2.out]
      obtain⟨P2,hP2⟩:∃ P2,P2=P.setCell ⟨n3,7,none⟩ (.int .i64 s.wh.ct):=⟨_,rfl⟩
      have HP2:Hid (AlQ w P2 n0 n1 n2 n3 B bv (.slice pt ts.length ct) (.slice pf F.length cf) (.slice pl L.length cl) (.slice pv (m+1) kv) h (x.more F h s)):=by
       rw[HX.out,hP2]
       exact HP.out.1.field Hne.out.1.1 Hne.out.1.2.1 Hne.out.1.2.2.1 Hne.out.2.2.1 (by
        have h9:=ar HP.out.1.eb 7 (.int .i64 s.wh.ct)
        simp only[List.setIfInBounds_toArray,List.set_cons_zero,List.set_cons_succ] at h9
        exact h9) rfl
      rw[v6] at x0
      clear v6
      go_wp2_with fail
      rw[←hP2]
      clear hP2
      go_roundg (bU L (x.us++[s]))
      case measure=>exact Nat.lt_of_lt_of_le HLt.out.1 Hgk.out
      case rel=>exact⟨x.more F h s,pv,m+1,kv,Nat.le_refl _,HP2.out,⟨by show _=(x.us++[s]).length;rw[List.length_append,←HE.out.1];rfl,by show m+1+bU L (x.us++[s])≤L.length;have:=HE.out.2.1;have:=HLt.out.1;omega,by rw[←HSt.out];exact HE.out.2.2⟩,HMy.out⟩
     have k6:(h.vb == 6)=false:=by simpa using v6
     by_cases v3:h.vb=3
     ·have HX:Hid (x.more F h s=⟨a,x.us++[s],x.go,s.wh.ct⟩):=by show _=_;unfold Ss.more;rw[if_neg v6,if_pos v3,Ha2.out]
      obtain⟨P2,hP2⟩:∃ P2,P2=P.setCell ⟨n3,8,none⟩ (.int .i64 s.wh.ct):=⟨_,rfl⟩
      have HP2:Hid (AlQ w P2 n0 n1 n2 n3 B bv (.slice pt ts.length ct) (.slice pf F.length cf) (.slice pl L.length cl) (.slice pv (m+1) kv) h (x.more F h s)):=by
       rw[HX.out,hP2]
       exact HP.out.1.field Hne.out.1.1 Hne.out.1.2.1 Hne.out.1.2.2.1 Hne.out.2.2.1 (by
        have h9:=ar HP.out.1.eb 8 (.int .i64 s.wh.ct)
        simp only[List.setIfInBounds_toArray,List.set_cons_zero,List.set_cons_succ] at h9
        exact h9) rfl
      rw[v3] at x0
      clear v6 v3 k6
      go_wp2_with fail
      rw[←hP2]
      clear hP2
      go_roundg (bU L (x.us++[s]))
      case measure=>exact Nat.lt_of_lt_of_le HLt.out.1 Hgk.out
      case rel=>exact⟨x.more F h s,pv,m+1,kv,Nat.le_refl _,HP2.out,⟨by show _=(x.us++[s]).length;rw[List.length_append,←HE.out.1];rfl,by show m+1+bU L (x.us++[s])≤L.length;have:=HE.out.2.1;have:=HLt.out.1;omega,by rw[←HSt.out];exact HE.out.2.2⟩,HMy.out⟩
     have k3:(h.vb == 3)=false:=by simpa using v3
     have HX:Hid (x.more F h s=⟨a,x.us++[s],x.go,x.li⟩):=by show _=_;unfold Ss.more;rw[if_neg v6,if_neg v3,Ha2.out]
     have HP2:Hid (AlQ w P n0 n1 n2 n3 B bv (.slice pt ts.length ct) (.slice pf F.length cf) (.slice pl L.length cl) (.slice pv (m+1) kv) h (x.more F h s)):=by rw[HX.out];exact HP.out.1
     clear v6 v3
     go_wp2_with fail
     go_roundg (bU L (x.us++[s]))
     case measure=>exact Nat.lt_of_lt_of_le HLt.out.1 Hgk.out
     case rel=>exact⟨x.more F h s,pv,m+1,kv,Nat.le_refl _,HP2.out,⟨by show _=(x.us++[s]).length;rw[List.length_append,←HE.out.1];rfl,by show m+1+bU L (x.us++[s])≤L.length;have:=HE.out.2.1;have:=HLt.out.1;omega,by rw[←HSt.out];exact HE.out.2.2⟩,HMy.out⟩
    ·simp only[QA,QB,QC]
     go_simp
     refine hK.out _ _ (⟨ae (aa (World.grownBy_alloc _ _ none) (ag _)) HZ.out.1 (by simp),ae (aa (World.grownBy_alloc _ _ none) (ag _)) HZ.out.2.1 (by simp)⟩) (fun hHeld3=>?_)
     clear hK K9
     (try go_frame)
     obtain⟨Q,hQ⟩:∃ Q,Q=(Z.alloc (.cells (sdc s).toArray 40)).drew:=⟨_,rfl⟩
     have HGQ:Hid (Z.grownBy Q none):=by rw[hQ];exact aa (World.grownBy_alloc _ _ none) (ag _)
     have HSr:Hid (Src Q (.slice (some ⟨Z.heap.size,0,none⟩) 1 1) 1 10 (sdc s)):=by rw[hQ];exact Src.keep (qE Z s) (ag _)
     unfold sdc at hQ
     rw[←hQ]
     have HQ3:Hid (AlQ w Q n0 n1 n2 n3 B bv (.slice pt ts.length ct) (.slice pf F.length cf) (.slice pl L.length cl) (.slice p m c) h x):=HQ2.out.keep HGQ.out
     have HOb:Hid (Q.ownsRow B 40 10 (.slice p m c) m (sdR.cs x.us)):=aA HOa.out HGQ.out
     have HZ3:Hid (HpB Q n6 a∧SdB Q n7 s):=⟨ae HGQ.out HZ.out.1 (by simp),ae HGQ.out HZ.out.2.1 (by simp)⟩
     clear hQ
     have y6:=HGQ.out.cell y6 (by simp)
     refine QR 2 rfl (fun K9 hK=>?_)
     go_simp
     refine hK.out _ _ (HZ3.out) (fun hHeld3=>?_)
     clear hK K9
     (try go_frame)
     refine QZ 6 rfl ?_
     go_frame
     clear y0 y1 y2 y3 y4 y5 y6 y7 y8
     refine QR 5 rfl (fun K9 hK=>?_)
     refine iQ (.tmp 30) (.tmp 32) 27 rfl B 40 i0 _ 10 56 Tryz.underlying27 hi hz0 hz1 hz2 rfl (by decide) (.slice p m c) m (sdR.cs x.us) rfl HOb.out (.slice (some ⟨Z.heap.size,0,none⟩) 1 1) 1 (sdc s) rfl HSr.out (fL _) HLn.out.1 HLn.out.2 HQ3.out.hs ?_
     intro v' w7 o7 g7 l7
     obtain⟨w9,hw9⟩:∃ w9,w9=w7:=⟨_,rfl⟩
     subst hw9
     obtain⟨v9,hv9⟩:∃ v9,v9=v':=⟨_,rfl⟩
     subst hv9
     have HO9:Hid (bi w9 B v9 (x.us++[s])):=ay.more o7 HE.out.1
     have HG9:Hid (Q.grownBy w9 (Value.slice p m c).ownBlock):=g7
     clear o7 g7 l7
     obtain⟨pv,kv,rfl⟩:=ay.Own.form HO9.out
     rw[List.length_append,List.length_singleton,←HE.out.1] at HO9 ⊢
     have HZ9:Hid (HpB w9 n6 a∧SdB w9 n7 s):=⟨ae HG9.out HZ3.out.1 (bE HOb.out HZ3.out.1 (by decide)),ae HG9.out HZ3.out.2 Hp7.out⟩
     have HE9:Hid (SwB w9 n3 x.af (.slice p m c) x.go x.li):=ae HG9.out HQ3.out.eb (bE HOb.out HQ3.out.eb (by decide))
     refine hK.out _ _ HZ9.out (fun hHeld4=>?_)
     clear hK K9
     (try go_frame)
     obtain⟨y0,y1,y2,y3,y4,y5,y6,y7,y8⟩:=bz HE9.out
     have yf:=fun i=>ao HE9.out i
     refine QR 7 rfl (fun K9 hK=>?_)
     go_simp
     refine hK.out _ _ (⟨ae (aW _ _ _ _ _ _ _ _) HZ9.out.1 (fun q=>Hn36.out.1 (Option.some.inj q)),ae (aW _ _ _ _ _ _ _ _) HZ9.out.2 (fun q=>Hn36.out.2 (Option.some.inj q))⟩) (fun hHeld5=>?_)
     clear hK K9
     (try go_frame)
     obtain⟨Y,hY⟩:∃ Y,Y=(((((w9.setCell ⟨n3,0,none⟩ (.int .u8 a.vb)).setCell ⟨n3,1,none⟩ (.int .i64 a.on)).setCell ⟨n3,2,none⟩ (.int .i64 a.ct)).setCell ⟨n3,3,none⟩ (.int .i64 a.ho)).setCell ⟨n3,4,none⟩ (.bool a.vn)).setCell ⟨n3,5,none⟩ (.bool a.dr):=⟨_,rfl⟩
     rw[←hY]
     have HY:Hid (SwB Y n3 a (.slice p m c) x.go x.li∧w9.grownBy Y (some n3)):=⟨by rw[hY];exact wF a HE9.out,by rw[hY];exact aW _ _ _ _ _ _ _ _⟩
     have HZY:Hid (HpB Y n6 a∧SdB Y n7 s):=⟨ae HY.out.2 HZ9.out.1 (fun q=>Hn36.out.1 (Option.some.inj q)),ae HY.out.2 HZ9.out.2 (fun q=>Hn36.out.2 (Option.some.inj q))⟩
     have hHeldY:=HZY.out
     clear hY y0 y1 y2 y3 y4 y5 y6 y7 y8 yf
     refine QZ 8 rfl ?_
     go_frame
     obtain⟨y0,y1,y2,y3,y4,y5,y6,y7,y8⟩:=bz HY.out.1
     have yf:=fun i=>ao HY.out.1 i
     refine QR 9 rfl (fun K9 hK=>?_)
     go_simp
     refine hK.out _ _ (⟨ae (aj _ _ _ _) HZY.out.1 (fun q=>Hn36.out.1 (Option.some.inj q)),ae (aj _ _ _ _) HZY.out.2 (fun q=>Hn36.out.2 (Option.some.inj q))⟩) (fun hHeld6=>?_)
     clear hK K9
     (try go_frame)
     refine QD ?_
     obtain⟨P,hP⟩:∃ P,P=Y.setCell ⟨n3,6,none⟩ (.slice pv (m+1) kv):=⟨_,rfl⟩
     rw[←hP]
     have HGP:Hid (w9.grownBy P (some n3)):=by rw[hP];exact aa HY.out.2 (aj _ _ _ _)
     have HP:Hid (AlQ w P n0 n1 n2 n3 B bv (.slice pt ts.length ct) (.slice pf F.length cf) (.slice pl L.length cl) (.slice pv (m+1) kv) h ⟨a,x.us++[s],x.go,x.li⟩∧SdB P n7 s):=by
      refine⟨⟨?_,?_,?_,?_,?_,?_,?_⟩,?_⟩
      ·exact ae HGP.out (ae HG9.out HQ3.out.sb (bE HOb.out HQ3.out.sb (by decide))) (fun q=>Hne.out.1.1 (Option.some.inj q))
      ·exact ae HGP.out (ae HG9.out HQ3.out.hb (bE HOb.out HQ3.out.hb (by decide))) (fun q=>Hne.out.1.2.1 (Option.some.inj q))
      ·exact ae HGP.out (ae HG9.out HQ3.out.rb (bE HOb.out HQ3.out.rb (by decide))) (fun q=>Hne.out.1.2.2.1 (Option.some.inj q))
      ·rw[hP]
       have h9:=ar HY.out.1 6 (.slice pv (m+1) kv)
       simp only[List.setIfInBounds_toArray,List.set_cons_zero,List.set_cons_succ] at h9
       exact h9
      ·exact bX HO9.out HGP.out HE9.out (by decide)
      ·exact am (am HQ3.out.gr HG9.out (fun y e=>Nat.le_trans Hne.out.2.2.2.1 (World.ownsRow.lt HOb.out y e).1)) HGP.out (fun y e=>by cases e;exact Hne.out.2.2.1)
      ·exact Nat.le_trans HQ3.out.hs (Nat.le_trans HG9.out.size HGP.out.size)
      ·exact ae HGP.out HZ9.out.2 (fun q=>Hn36.out.2 (Option.some.inj q))
     clear hP y0 y1 y2 y3 y4 y5 y6 y7 y8 yf hHeld hHeld3 hHeld4 hHeld5 hHeld6 hHeldY HGP HY HZY HZ9 HE9 HO9 HG9 HQ3 HOb HZ3 HSr HGQ
     obtain⟨x0,x1,x2,x3,x4,x5⟩:=aL HP.out.1.hb
     obtain⟨y0,y1,y2,y3,y4,y5,y6,y7,y8⟩:=bz HP.out.1.eb
     have yf:=fun i=>ao HP.out.1.eb i
     obtain⟨d0,d1,d2,d3,d4,d5,d6,d7,d8,d9⟩:=aT HP.out.2
     by_cases v6:h.vb=6
     ·have HX:Hid (x.more F h s=⟨a,x.us++[s],s.wh.ct,x.li⟩):=by show _=_;unfold Ss.more;rw[if_pos v6,if_neg (by omega),Ha2.out]
      obtain⟨P2,hP2⟩:∃ P2,P2=P.setCell ⟨n3,7,none⟩ (.int .i64 s.wh.ct):=⟨_,rfl⟩
      have HP2:Hid (AlQ w P2 n0 n1 n2 n3 B bv (.slice pt ts.length ct) (.slice pf F.length cf) (.slice pl L.length cl) (.slice pv (m+1) kv) h (x.more F h s)):=by
       rw[HX.out,hP2]
       exact HP.out.1.field Hne.out.1.1 Hne.out.1.2.1 Hne.out.1.2.2.1 Hne.out.2.2.1 (by
        have h9:=ar HP.out.1.eb 7 (.int .i64 s.wh.ct)
        simp only[List.setIfInBounds_toArray,List.set_cons_zero,List.set_cons_succ] at h9
        exact h9) rfl
      rw[v6] at x0
      clear v6
      go_wp2_with fail
      rw[←hP2]
      clear hP2
      go_roundg (bU L (x.us++[s]))
      case measure=>exact Nat.lt_of_lt_of_le HLt.out.1 Hgk.out
      case rel=>exact⟨x.more F h s,pv,m+1,kv,Nat.le_refl _,HP2.out,⟨by show _=(x.us++[s]).length;rw[List.length_append,←HE.out.1];rfl,by show m+1+bU L (x.us++[s])≤L.length;have:=HE.out.2.1;have:=HLt.out.1;omega,by rw[←HSt.out];exact HE.out.2.2⟩,HMy.out⟩
     have k6:(h.vb == 6)=false:=by simpa using v6
     by_cases v3:h.vb=3
     ·have HX:Hid (x.more F h s=⟨a,x.us++[s],x.go,s.wh.ct⟩):=by show _=_;unfold Ss.more;rw[if_neg v6,if_pos v3,Ha2.out]
      obtain⟨P2,hP2⟩:∃ P2,P2=P.setCell ⟨n3,8,none⟩ (.int .i64 s.wh.ct):=⟨_,rfl⟩
      have HP2:Hid (AlQ w P2 n0 n1 n2 n3 B bv (.slice pt ts.length ct) (.slice pf F.length cf) (.slice pl L.length cl) (.slice pv (m+1) kv) h (x.more F h s)):=by
       rw[HX.out,hP2]
       exact HP.out.1.field Hne.out.1.1 Hne.out.1.2.1 Hne.out.1.2.2.1 Hne.out.2.2.1 (by
        have h9:=ar HP.out.1.eb 8 (.int .i64 s.wh.ct)
        simp only[List.setIfInBounds_toArray,List.set_cons_zero,List.set_cons_succ] at h9
        exact h9) rfl
      rw[v3] at x0
      clear v6 v3 k6
      go_wp2_with fail
      rw[←hP2]
      clear hP2
      go_roundg (bU L (x.us++[s]))
      case measure=>exact Nat.lt_of_lt_of_le HLt.out.1 Hgk.out
      case rel=>exact⟨x.more F h s,pv,m+1,kv,Nat.le_refl _,HP2.out,⟨by show _=(x.us++[s]).length;rw[List.length_append,←HE.out.1];rfl,by show m+1+bU L (x.us++[s])≤L.length;have:=HE.out.2.1;have:=HLt.out.1;omega,by rw[←HSt.out];exact HE.out.2.2⟩,HMy.out⟩
     have k3:(h.vb == 3)=false:=by simpa using v3
     have HX:Hid (x.more F h s=⟨a,x.us++[s],x.go,x.li⟩):=by show _=_;unfold Ss.more;rw[if_neg v6,if_neg v3,Ha2.out]
     have HP2:Hid (AlQ w P n0 n1 n2 n3 B bv (.slice pt ts.length ct) (.slice pf F.length cf) (.slice pl L.length cl) (.slice pv (m+1) kv) h (x.more F h s)):=by rw[HX.out];exact HP.out.1
     clear v6 v3
     go_wp2_with fail
     go_roundg (bU L (x.us++[s]))
     case measure=>exact Nat.lt_of_lt_of_le HLt.out.1 Hgk.out
     case rel=>exact⟨x.more F h s,pv,m+1,kv,Nat.le_refl _,HP2.out,⟨by show _=(x.us++[s]).length;rw[List.length_append,←HE.out.1];rfl,by show m+1+bU L (x.us++[s])≤L.length;have:=HE.out.2.1;have:=HLt.out.1;omega,by rw[←HSt.out];exact HE.out.2.2⟩,HMy.out⟩
end Go.Proofs.YthfjgpjcepmnmaaGreat
