/-
  
-/
import Derived.Test.YthfjgpjcepmnmaaGreatO0
import Derived.Test.YthfjgpjcepmnmaaGreatO35
import Derived.Test.YthfjgpjcepmnmaaGreatO25
import Derived.Test.YthfjgpjcepmnmaaGreatRyO
namespace Go.Proofs.YthfjgpjcepmnmaaGreat
set_option maxRecDepth 100000
set_option maxHeartbeats 4000000
open Go.RowKit

theorem fH {a b:World} {c:Nat} (h:a.grownBy b none) (hc:a.heap.size≤c) (v0 v1 v2 v3:Value):a.grownBy ((((b.setCell ⟨c,0,none⟩ v0).setCell ⟨c,1,none⟩ v1).setCell ⟨c,2,none⟩ v2).setCell ⟨c,3,none⟩ v3) none:=am h ((((aj _ _ _ _).trans (aj _ _ _ _)).trans (aj _ _ _ _)).trans (aj _ _ _ _)) (fun y e=>by cases e;exact hc)
theorem oy (b:World) (c:Nat) (v0 v1 v2 v3:Value):b.grownBy ((((b.setCell ⟨c,0,none⟩ v0).setCell ⟨c,1,none⟩ v1).setCell ⟨c,2,none⟩ v2).setCell ⟨c,3,none⟩ v3) (some c):=(((aj _ _ _ _).trans (aj _ _ _ _)).trans (aj _ _ _ _)).trans (aj _ _ _ _)
def swK (R:List Rw) (F:List Fe) (k:Nat):List Sd:=(R.take k).flatMap (gO F)
theorem wP (R:List Rw) (F:List Fe):swK R F R.length=swL R F:=by unfold swK;rw[List.take_length];rfl
theorem rQ {R:List Rw} {F:List Fe} {k:Nat} (h:k<R.length):swK R F (k+1)=swK R F k++gO F (R.getD k Rw.none):=by
 unfold swK
 rw[List.take_add_one,List.getElem?_eq_getElem h,List.flatMap_append,aw h]
 simp
theorem oO (nu:Int) (ps:List Pt) (h:ps.length≤4):(bQ nu ps).length≤4:=by unfold bQ;rw[List.length_map];exact vQ ps 6 h
theorem ya (F:List Fe) (r:Rw) (h:r.ps.length≤4):(gO F r).length≤4:=by
 unfold gO
 split
 ·exact Nat.zero_le _
 ·exact oO _ _ h
theorem oZ {R:List Rw} {F:List Fe} (hp:∀ i,(R.getD i Rw.none).ps.length≤4):∀ k,k≤R.length→(swK R F k).length≤4*k
 | 0,_=>by simp[swK]
 | k+1,h=>by
  rw[rQ (by omega),List.length_append]
  have a1:=oZ (F:=F) hp k (by omega)
  have a2:=ya F _ (hp k)
  omega
structure SkS (w wr:World) (n0 n1 B B2:Nat) (bv vt vf v vn:Value) (N:List Int) (L:List Sd):Prop where
 sb:bY wr n1 bv vt vf v
 rb:bY wr n0 (.pointer none) (.slice none 0 0) (.slice none 0 0) (.slice none 0 0)
 li:bi wr B v L
 nu:aU wr B2 vn N
 gr:w.grownBy wr none
 hs:B≤wr.heap.size
theorem SkS.keep {w wr w':World} {n0 n1 B B2:Nat} {bv vt vf v vn:Value} {N:List Int} {L:List Sd} (h:SkS w wr n0 n1 B B2 bv vt vf v vn N L) (g:wr.grownBy w' none):SkS w w' n0 n1 B B2 bv vt vf v vn N L:=⟨ae g h.sb (by simp),ae g h.rb (by simp),aA h.li g,aA h.nu g,aa h.gr g,Nat.le_trans h.hs g.size⟩
theorem SkS.more {w wr w9:World} {n0 n1 B B2:Nat} {bv vt vf v v9 vn:Value} {N:List Int} {L M:List Sd} (h:SkS w wr n0 n1 B B2 bv vt vf v vn N L) (o:bi w9 B v9 M) (g:wr.grownBy w9 v.ownBlock) (h1:n0≠n1) (h2:w.heap.size≤n1) (h3:w.heap.size≤B):SkS w (w9.setCell ⟨n1,3,none⟩ v9) n0 n1 B B2 bv vt vf v9 vn N M:=by
 have s9:bY w9 n1 bv vt vf v:=ae g h.sb (bE h.li h.sb (by decide))
 have gs:w9.grownBy (w9.setCell ⟨n1,3,none⟩ v9) (some n1):=aj _ _ _ _
 refine⟨ar s9 3 v9,ae gs (ae g h.rb (bE h.li h.rb (by decide))) (fun q=>h1 (Option.some.inj q)),bX o gs s9 (by decide),bX (dz h.nu h.li (by decide) g) gs s9 (by decide),?_,Nat.le_trans h.hs (Nat.le_trans g.size gs.size)⟩
 exact am (am h.gr g (fun y e=>Nat.le_trans h3 (World.ownsRow.lt h.li y e).1)) gs (fun y e=>by cases e;exact h2)
def kp (w:World) (bv vt vf:Value) (r n:Int) (cd:Int→Hd×List Pt) (ts:List Th) (F:List Fe) (e:Ending) (w':World):Prop:=∃ a p1 m1 c1 p2 m2 c2 p3 m3 c3,e=.returned (.tuple #[.agg #[.pointer a,.slice p1 m1 c1,.slice p2 m2 c2,.slice p3 m3 c3],.int .i64 (bgE r n cd ts F 1)])∧w.grownBy w' none∧(∀ R,r=0→bd n cd ts F=some R→.pointer a=bv∧.slice p1 m1 c1=vt∧.slice p2 m2 c2=vf∧bi w' w.heap.size (.slice p3 m3 c3) (swL R F))
theorem kp.no {w w':World} {bv vt vf:Value} {r n:Int} {cd:Int→Hd×List Pt} {ts:List Th} {F:List Fe} {q:Int} (h:bgE r n cd ts F 1=q) (hq:q≠0) (g:w.grownBy w' none):kp w bv vt vf r n cd ts F (.returned (.tuple #[.agg #[.pointer none,.slice none 0 0,.slice none 0 0,.slice none 0 0],.int .i64 q])) w':=⟨none,none,0,0,none,0,0,none,0,0,by rw[h],g,fun R h0 h1=>by rw[h0,lW h1 (by decide)] at h;exact absurd h.symm hq⟩
structure SIn (w:World) (bv vt vf:Value) (r n:Int) (cd:Int→Hd×List Pt) (ts:List Th) (F:List Fe):Prop where
 li:LIn w bv vt vf r n cd ts F
 card:r=0→je w bv n cd
 good:nk cd
theorem SIn.keep {w w':World} {bv vt vf:Value} {r n:Int} {cd:Int→Hd×List Pt} {ts:List Th} {F:List Fe} (h:SIn w bv vt vf r n cd ts F) (g:w.grownBy w' none):SIn w' bv vt vf r n cd ts F:=⟨h.li.keep g,fun q=>(h.card q).keep g,h.good⟩
theorem tJ {F:List Fe} {r:Rw} {j:Nat} {f:Fe} (h:r.nu=(j:Int)+1) (hf:F[j]?=some f):gO F r=if iC f.tr 6 then [] else bQ ((j:Int)+1) r.ps:=by
 unfold gO zy
 rw[h,toN,List.getD_eq_getElem?_getD,hf]
 rfl
theorem vT {n:Int} {t:Th} (h:bH n t=true):1≤t.card∧t.card≤n:=by
 unfold bH at h
 simp only[Bool.and_eq_true,decide_eq_true_eq] at h
 exact⟨h.1.1.1.1,h.1.1.1.2⟩
theorem EF {j n:Nat} (h:j<n) (hn:n≤2048):wrap64 (j:Int)=(j:Int):=by unfold wrap64;omega
theorem Ff {j n:Nat} (h:j<n) (hn:n≤2048):IntKind.i64.wrap (j:Int)=(j:Int):=by rw[IntWalk.i64_in _ (by omega)]
theorem Ex {k n:Nat} (h:k<n) (hn:n≤16):k≤4096:=by omega
theorem BY {a b k n:Nat} (ha:a≤4*k) (hb:b≤4) (hk:k<n) (hn:n≤16):a+b≤maxLen∧(a+b)*56≤140737488355328:=⟨by unfold maxLen;omega,by omega⟩
theorem oH (bv vt vf:Value) (r n:Int) (cd:Int→Hd×List Pt) (ts:List Th) (F:List Fe) (w:World) (I:SIn w bv vt vf r n cd ts F) (hb:∃ a,bv=.pointer a):Calls Tryz.prog 62 #[bv,vt,vf] w (kp w bv vt vf r n cd ts F):=by
 obtain⟨i0,hi,hz0,hz1,hz2⟩:=info_parts Tryz.linfoD
 obtain⟨ba,rfl⟩:=hb
 obtain⟨pt,ct,rfl⟩:=I.li.things.form
 obtain⟨pf,cf,rfl⟩:=I.li.feats.form
 obtain⟨W1,hW1⟩:∃ W1,W1=w.alloc (.cells #[.pointer none,.slice none 0 0,.slice none 0 0,.slice none 0 0] 136):=⟨_,rfl⟩
 have HG1:Hid (w.grownBy W1 none):=by rw[hW1];exact World.grownBy_alloc _ _ none
 have HR:Hid (bY W1 w.heap.size (.pointer none) (.slice none 0 0) (.slice none 0 0) (.slice none 0 0)):=by rw[hW1];exact ai w _ _
 have HI0:Hid (SIn w (.pointer ba) (.slice pt ts.length ct) (.slice pf F.length cf) r n cd ts F):=I
 have HI:Hid (SIn W1 (.pointer ba) (.slice pt ts.length ct) (.slice pf F.length cf) r n cd ts F):=I.keep HG1.out
 have CE:=qP (.pointer ba) _ _ r n cd ts F 1 W1 HI.out.li
 clear I
 go_enter Tryz.func62,Tryz.ntmps62
 go_upto_region 1 with fail
 rw[←hW1]
 clear hW1
 obtain⟨n0,h0⟩:∃ n0,n0=w.heap.size:=⟨_,rfl⟩
 have Hn0:Hid (w.heap.size≤n0∧n0<W1.heap.size):=⟨by rw[h0];exact Nat.le_refl _,by rw[h0];exact bf HR.out⟩
 simp only[←h0] at HR ⊢
 clear h0
 go_wp2_with fail
 refine CE.mono ?_
 rintro e2 w2 ⟨p2,m2,c2,rfl,g2,h2,-⟩
 obtain⟨q,hq⟩:∃ q,q=bgE r n cd ts F 1:=⟨_,rfl⟩
 have Hq:Hid (q=bgE r n cd ts F 1):=hq
 rw[←hq]
 have HG2:Hid (W1.grownBy w2 none):=g2
 have HR2:Hid (bY w2 n0 (.pointer none) (.slice none 0 0) (.slice none 0 0) (.slice none 0 0)):=ae g2 HR.out (by simp)
 clear CE g2 hq h2
 by_cases hq0:q=0
 case neg =>
  have e1:(q != 0)=true:=by simpa using hq0
  have Hq0:Hid (q≠0):=hq0
  clear hq0
  obtain⟨r0,r1,r2,r3⟩:=aR HR2.out
  have rf:=fun i=>ao HR2.out i
  go_wp2_with fail
  refine bodyPost_ret (v:=.tuple #[.agg #[.pointer none,.slice none 0 0,.slice none 0 0,.slice none 0 0],.int .i64 q]) (by simp[results,Tryz.results62,go_sem,r0,r1,r2,r3]) rfl (kp.no Hq.out.symm Hq0.out ?_)
  exact fH (aa HG1.out HG2.out) Hn0.out.1 _ _ _ _
 have e1:(q != 0)=false:=by simpa using hq0
 obtain⟨hr0,hk0,R,hR⟩:=m9 (Hq.out.symm.trans hq0)
 have hT:=Tab.of hR
 have HT:Hid (Tab n cd ts F R∧r=0∧bgE r n cd ts F 1=0∧bd n cd ts F=some R):=⟨hT,hr0,Hq.out.symm.trans hq0,hR⟩
 have HL:Hid (jd W1 (.pointer ba) n cd∧ts.length≤2048):=HI.out.li.book hr0
 clear hq0 hr0 hk0 hR hT
 obtain⟨V,hV⟩:∃ V,V=w2.alloc (.cells #[.pointer ba,.slice pt ts.length ct,.slice pf F.length cf,.slice none 0 0] 136):=⟨_,rfl⟩
 have HV:Hid (bY V w2.heap.size (.pointer ba) (.slice pt ts.length ct) (.slice pf F.length cf) (.slice none 0 0)∧W1.grownBy V none∧bY V n0 (.pointer none) (.slice none 0 0) (.slice none 0 0) (.slice none 0 0)∧w2.heap.size<V.heap.size):=by
  have gr:w2.grownBy V none:=by rw[hV];exact World.grownBy_alloc _ _ none
  exact⟨by rw[hV];exact ai _ _ _,aa HG2.out gr,ae gr HR2.out (by simp),by rw[hV,World.size_alloc];omega⟩
 have CT:=ur (.pointer ba) (.slice pt ts.length ct) (.slice pf F.length cf) (.slice none 0 0) n cd ts F R V (HI.out.li.things.keep HV.out.2.1) HT.out.1 HL.out.2
 unfold ch at CT
 have Hw2:Hid (W1.heap.size≤w2.heap.size):=HG2.out.size
 go_upto_region 5 with fail
 rw[←hV]
 obtain⟨n1,hn1⟩:∃ n1,n1=w2.heap.size:=⟨_,rfl⟩
 rw[←hn1] at HV Hw2 ⊢
 clear hV hn1 HR2 HG2
 obtain⟨c0,c1,c2,c3⟩:=aR HV.out.1
 go_wp2_with fail
 refine CT.mono ?_
 rintro e3 w3 ⟨v3,rfl,o3,g3⟩
 obtain⟨pN,cN,rfl⟩:=aU.form o3
 rw[List.length_map] at o3 ⊢
 have HA3:Hid (SkS w w3 n0 n1 w3.heap.size V.heap.size (.pointer ba) (.slice pt ts.length ct) (.slice pf F.length cf) (.slice none 0 0) (.slice pN R.length cN) (R.map Rw.nu) (swK R F 0)):=⟨ae g3 HV.out.1 (by simp),ae g3 HV.out.2.2.1 (by simp),ay.Own.nil _ _ _ _,o3,aa HG1.out (aa HV.out.2.1 g3),Nat.le_refl _⟩
 obtain⟨B,hB⟩:∃ B,B=w3.heap.size:=⟨_,rfl⟩
 obtain⟨B2,hB2⟩:∃ B2,B2=V.heap.size:=⟨_,rfl⟩
 have HBB0:Hid (B=w3.heap.size∧n0≠n1∧w.heap.size≤n1∧w.heap.size≤B):=⟨hB,by have:=Hn0.out.2;have:=Hw2.out;omega,by have:=Hn0.out;have:=Hw2.out;omega,by rw[hB];exact HA3.out.gr.size⟩
 rw[←hB,←hB2] at HA3
 clear hB hB2 CT o3 g3 c0 c1 c2 c3 HV
 go_wp2_with fail
 go_loopw [31] (fun i wr=>∃ (k:Nat) (p:Option Addr) (m c:Nat),k≤R.length∧i=.int .i64 (k:Int)∧SkS w wr n0 n1 B B2 (.pointer ba) (.slice pt ts.length ct) (.slice pf F.length cf) (.slice p m c) (.slice pN R.length cN) (R.map Rw.nu) (swK R F k)∧m=(swK R F k).length) (fun i _=>R.length - (intOf i).toNat)
 case atStart=>exact⟨0,none,0,0,Nat.zero_le _,rfl,HA3.out,rfl⟩
 case round =>
  clear HA3
  obtain⟨k,p,m,c,hk',rfl,hK1,hK2⟩:=hrel
  obtain⟨U,hU⟩:∃ U,U=wr:=⟨_,rfl⟩
  subst hU
  have HK:Hid (SkS w U n0 n1 B B2 (.pointer ba) (.slice pt ts.length ct) (.slice pf F.length cf) (.slice p m c) (.slice pN R.length cN) (R.map Rw.nu) (swK R F k)∧m=(swK R F k).length):=⟨hK1,hK2⟩
  clear hK1 hK2
  obtain⟨c0,c1,c2,c3⟩:=aR HK.out.1.sb
  by_cases hlt:k<R.length
  ·have i1:(k:Int)<(R.length:Int):=Int.ofNat_lt.2 hlt
   have hwk:=aK (k:=k) (Ex hlt HT.out.1.few)
   have HM:Hid (R.length - (intOf (.int .i64 ((k:Int)+1))).toNat<R.length - (intOf (.int .i64 (k:Int))).toNat):=bF hlt
   obtain⟨j,t,ht,h4,hr⟩:=HT.out.1.row (List.getElem_mem hlt)
   rw[←aw (d:=Rw.none) hlt] at hr
   obtain⟨r0,hr0⟩:∃ r0,r0=R.getD k Rw.none:=⟨_,rfl⟩
   rw[←hr0] at hr
   have hjl:j<ts.length:=(List.getElem?_eq_some_iff.1 ht).1
   have hjf:j<F.length:=by rw[←HT.out.1.len];exact hjl
   obtain⟨f,hf⟩:∃ f,F[j]?=some f:=⟨_,List.getElem?_eq_getElem hjf⟩
   have hci:=vT (HT.out.1.mays ht hf).1
   have hnu:r0.nu=(j:Int)+1:=by rw[hr]
   have hps:r0.ps=(cd t.card).2:=by rw[hr]
   obtain⟨gN,cN',eN,y9⟩:=Ca HK.out.1.nu (j:=k) (by rw[List.length_map];exact hlt)
   injection eN with eN eN2 eN3
   clear eN2 eN3
   subst eN
   have y0:U.cell? ⟨gN,k,none⟩=some (.int .i64 ((j:Int)+1)):=by rw[y9,fK Rw.nu R k Rw.none 0 hlt,←hr0,hnu]
   clear y9
   obtain⟨gF,oF,cF,eF,-⟩:=dG HI0.out.li.feats hjf
   injection eF with eF eF2 eF3
   clear eF2 eF3
   subst eF
   obtain⟨-,-,f2,-⟩:=cC (fW (HI0.out.li.feats.keep HK.out.1.gr) hf)
   have j2:((j:Int))<(F.length:Int):=Int.ofNat_lt.2 hjf
   have hb:=HL.out.2
   have wj:wrap64 (j:Int)=(j:Int):=EF hjl hb
   have wj2:IntKind.i64.wrap (j:Int)=(j:Int):=Ff hjl hb
   have HNm:=tJ hnu hf
   have HN0:Hid (swK R F (k+1)=swK R F k++gO F r0):=by show _=_;rw[rQ hlt,hr0]
   have HRm:Hid (m+(bQ ((j:Int)+1) r0.ps).length≤maxLen∧(m+(bQ ((j:Int)+1) r0.ps).length)*56≤140737488355328):=by
    have h4':∀ i,(R.getD i Rw.none).ps.length≤4:=HT.out.1.ps4 HL.out.1.few
    refine BY ?_ (oO _ _ (by rw[hr0];exact h4' k)) hlt HT.out.1.few
    rw[HK.out.2]
    exact oZ h4' k (Nat.le_of_lt hlt)
   have CW:∀ X,U.grownBy X none→Calls Tryz.prog 130 #[ch (.pointer ba) (.slice pt ts.length ct) (.slice (some ⟨gF,oF,none⟩) F.length cf) (.slice p m c),.int .i64 ((j:Int)+1)] X fun e w'=>∃ v,e=.returned v∧bi w' X.heap.size v (bQ ((j:Int)+1) r0.ps)∧X.grownBy w' none:=fun X q=>by
    rw[hps]
    exact qV _ _ _ _ n cd ts j t X (HI0.out.li.things.keep (aa HK.out.1.gr q)) ht hb ((HI0.out.card HT.out.2.1).keep (aa HK.out.1.gr q)) hci.1 hci.2 (HL.out.1.few _)
   have HBB:Hid (w.heap.size≤w.heap.size∧w.heap.size≤B∧n0≠n1∧w.heap.size≤n1):=⟨Nat.le_refl _,HBB0.out.2.2.2,HBB0.out.2.1,HBB0.out.2.2.1⟩
   have Hk:Hid (k+1≤R.length):=hlt
   unfold ch at CW
   clear hk' hlt ht h4 hr hr0 hjl hjf hf hci hps hb hnu
   cases hm:iC f.tr 6 with
   | true =>
    have HZ:Hid (SkS w U n0 n1 B B2 (.pointer ba) (.slice pt ts.length ct) (.slice (some ⟨gF,oF,none⟩) F.length cf) (.slice p m c) (.slice (some ⟨gN,0,none⟩) R.length cN) (R.map Rw.nu) (swK R F (k+1))∧m=(swK R F (k+1)).length):=by
     rw[HN0.out,HNm,hm,if_pos rfl,List.append_nil]
     exact HK.out
    clear CW HK HNm HN0
    go_wp2_with (go_at_call 129;refine(lq _ _ _).mono ?_;rintro e4 w4 ⟨rfl,h4⟩;obtain rfl:U=w4:=h4.symm;rw[hm])
    go_roundw
    case rel=>exact⟨k+1,p,m,c,Hk.out,by first | rfl | (rw[hwk];rfl) | go_num,HZ.out⟩
    case measure=>first | exact HM.out | (rw[hwk];exact HM.out)
   | false =>
    have HN:Hid (swK R F (k+1)=swK R F k++bQ ((j:Int)+1) r0.ps):=by show _=_;rw[HN0.out,HNm,hm,if_neg (by simp)]
    clear HNm HN0
    go_upto_region 9 with (go_at_call 129;refine(lq _ _ _).mono ?_;rintro e4 w4 ⟨rfl,h4⟩;obtain rfl:U=w4:=h4.symm;rw[hm])
    refine wp_region_held_drew (S:=fun _=>True) (by kernel_rfl) (trivial) (fun hHeld=>?_)
    refine QZ 0 rfl ?_
    go_frame
    refine QZ 3 rfl ?_
    go_frame
    refine wpAnyH_ready (rs:=[1,2]) (by kernel_rfl) (by simp) ?_
    refine AllReadyH.cons rfl (fun K9 hK=>?_) (AllReadyH.cons rfl (fun K9 hK=>?_) AllReadyH.nil)
    ·simp only[QA,QB,QC]
     go_simp
     refine hK.out _ _ trivial (fun hHeld3=>?_)
     clear hK K9
     (try go_frame)
     refine QR 2 rfl (fun K9 hK=>?_)
     go_simp
     refine hK.out _ _ trivial (fun hHeld3=>?_)
     clear hK K9
     (try go_frame)
     refine QR 4 rfl (fun K9 hK=>?_)
     go_simp
     go_at_call 130
     refine(CW _ (by first | exact aq _ _ | exact ag _)).mono ?_
     rintro e5 w5 ⟨v5,rfl,o5,g5⟩
     have HG5:Hid (U.grownBy w5 none):=aa (ag _) g5
     have HO5:Hid (bi w5 U.heap.size v5 (bQ ((j:Int)+1) r0.ps)):=o5
     clear o5 g5
     have c3:=HG5.out.cell c3 (by simp)
     refine hK.out _ _ trivial (fun hHeld3=>?_)
     clear hK K9
     (try go_frame)
     obtain⟨p5,k5,rfl⟩:=ay.Own.form HO5.out
     have HS5:Hid (SkS w w5 n0 n1 B B2 (.pointer ba) (.slice pt ts.length ct) (.slice (some ⟨gF,oF,none⟩) F.length cf) (.slice p m c) (.slice (some ⟨gN,0,none⟩) R.length cN) (R.map Rw.nu) (swK R F k)):=HK.out.1.keep HG5.out
     have HOa:Hid (w5.ownsRow B 40 10 (.slice p m c) m (sdR.cs (swK R F k))):=by have:=HS5.out.li;unfold bi ay.Own at this;rw[←HK.out.2] at this;exact this
     have HSr:Hid (Src w5 (.slice p5 (bQ ((j:Int)+1) r0.ps).length k5) (bQ ((j:Int)+1) r0.ps).length 10 (sdR.cs (bQ ((j:Int)+1) r0.ps))):=(ay.Own.at HO5.out).src
     have HB5:Hid (B≤w5.heap.size):=HS5.out.hs
     refine QR 5 rfl (fun K9 hK=>?_)
     refine iQ (.tmp 44) (.tmp 47) 27 rfl B 40 i0 _ 10 56 Tryz.underlying27 hi hz0 hz1 hz2 rfl (by decide) (.slice p m c) m (sdR.cs (swK R F k)) rfl HOa.out (.slice p5 (bQ ((j:Int)+1) r0.ps).length k5) (bQ ((j:Int)+1) r0.ps).length (sdR.cs (bQ ((j:Int)+1) r0.ps)) rfl HSr.out (ay.ones sdR _) HRm.out.1 HRm.out.2 HB5.out ?_
     intro v' w7 o7 g7 l7
     obtain⟨w9,hw9⟩:∃ w9,w9=w7:=⟨_,rfl⟩
     subst hw9
     obtain⟨v9,hv9⟩:∃ v9,v9=v':=⟨_,rfl⟩
     subst hv9
     have HO9:Hid (bi w9 B v9 (swK R F (k+1))):=by
      rw[HN.out]
      unfold bi ay.Own
      rw[List.length_append,←HK.out.2,ay.app]
      exact o7
     have HG9:Hid (w5.grownBy w9 (Value.slice p m c).ownBlock):=g7
     clear o7 g7 l7
     obtain⟨pv,kv,rfl⟩:=ay.Own.form HO9.out
     have x3:=(ac (show bY w9 n1 (.pointer ba) (.slice pt ts.length ct) (.slice (some ⟨gF,oF,none⟩) F.length cf) (.slice p m c) from ae HG9.out HS5.out.sb (bE HS5.out.li HS5.out.sb (by decide))) 3).trans rfl
     have xf:=fun i=>ao (show bY w9 n1 (.pointer ba) (.slice pt ts.length ct) (.slice (some ⟨gF,oF,none⟩) F.length cf) (.slice p m c) from ae HG9.out HS5.out.sb (bE HS5.out.li HS5.out.sb (by decide))) i
     refine hK.out _ _ trivial (fun hHeld3=>?_)
     clear hK K9
     (try go_frame)
     refine QZ 6 rfl ?_
     go_frame
     refine QR 7 rfl (fun K9 hK=>?_)
     go_simp
     refine hK.out _ _ trivial (fun hHeld3=>?_)
     clear hK K9
     (try go_frame)
     refine QD ?_
     have HS9:Hid (SkS w (w9.setCell ⟨n1,3,none⟩ (.slice pv (swK R F (k+1)).length kv)) n0 n1 B B2 (.pointer ba) (.slice pt ts.length ct) (.slice (some ⟨gF,oF,none⟩) F.length cf) (.slice pv (swK R F (k+1)).length kv) (.slice (some ⟨gN,0,none⟩) R.length cN) (R.map Rw.nu) (swK R F (k+1))):=HS5.out.more HO9.out HG9.out HBB.out.2.2.1 HBB.out.2.2.2 HBB.out.2.1
     obtain⟨Y,hY⟩:∃ Y,Y=w9.setCell ⟨n1,3,none⟩ (.slice pv (swK R F (k+1)).length kv):=⟨_,rfl⟩
     rw[←hY] at HS9 ⊢
     clear hY x3 xf c0 c1 c2 c3
     go_wp2_with fail
     go_roundw
     case rel=>exact⟨k+1,pv,(swK R F (k+1)).length,kv,Hk.out,by first | rfl | (rw[hwk];rfl) | go_num,HS9.out,rfl⟩
     case measure=>first | exact HM.out | (rw[hwk];exact HM.out)
    ·simp only[QA,QB,QC]
     go_simp
     refine hK.out _ _ trivial (fun hHeld3=>?_)
     clear hK K9
     (try go_frame)
     refine wpAnyH_ready (rs:=[1,4]) (by kernel_rfl) (by simp) ?_
     refine AllReadyH.cons rfl (fun K9 hK=>?_) (AllReadyH.cons rfl (fun K9 hK=>?_) AllReadyH.nil)
     ·simp only[QA,QB,QC]
      go_simp
      refine hK.out _ _ trivial (fun hHeld3=>?_)
      clear hK K9
      (try go_frame)
      refine QR 4 rfl (fun K9 hK=>?_)
      go_simp
      go_at_call 130
      refine(CW _ (by first | exact aq _ _ | exact ag _)).mono ?_
      rintro e5 w5 ⟨v5,rfl,o5,g5⟩
      have HG5:Hid (U.grownBy w5 none):=aa (ag _) g5
      have HO5:Hid (bi w5 U.heap.size v5 (bQ ((j:Int)+1) r0.ps)):=o5
      clear o5 g5
      have c3:=HG5.out.cell c3 (by simp)
      refine hK.out _ _ trivial (fun hHeld3=>?_)
      clear hK K9
      (try go_frame)
      obtain⟨p5,k5,rfl⟩:=ay.Own.form HO5.out
      have HS5:Hid (SkS w w5 n0 n1 B B2 (.pointer ba) (.slice pt ts.length ct) (.slice (some ⟨gF,oF,none⟩) F.length cf) (.slice p m c) (.slice (some ⟨gN,0,none⟩) R.length cN) (R.map Rw.nu) (swK R F k)):=HK.out.1.keep HG5.out
      have HOa:Hid (w5.ownsRow B 40 10 (.slice p m c) m (sdR.cs (swK R F k))):=by have:=HS5.out.li;unfold bi ay.Own at this;rw[←HK.out.2] at this;exact this
      have HSr:Hid (Src w5 (.slice p5 (bQ ((j:Int)+1) r0.ps).length k5) (bQ ((j:Int)+1) r0.ps).length 10 (sdR.cs (bQ ((j:Int)+1) r0.ps))):=(ay.Own.at HO5.out).src
      have HB5:Hid (B≤w5.heap.size):=HS5.out.hs
      refine QR 5 rfl (fun K9 hK=>?_)
      refine iQ (.tmp 44) (.tmp 47) 27 rfl B 40 i0 _ 10 56 Tryz.underlying27 hi hz0 hz1 hz2 rfl (by decide) (.slice p m c) m (sdR.cs (swK R F k)) rfl HOa.out (.slice p5 (bQ ((j:Int)+1) r0.ps).length k5) (bQ ((j:Int)+1) r0.ps).length (sdR.cs (bQ ((j:Int)+1) r0.ps)) rfl HSr.out (ay.ones sdR _) HRm.out.1 HRm.out.2 HB5.out ?_
      intro v' w7 o7 g7 l7
      obtain⟨w9,hw9⟩:∃ w9,w9=w7:=⟨_,rfl⟩
      subst hw9
      obtain⟨v9,hv9⟩:∃ v9,v9=v':=⟨_,rfl⟩
      subst hv9
      have HO9:Hid (bi w9 B v9 (swK R F (k+1))):=by
       rw[HN.out]
       unfold bi ay.Own
       rw[List.length_append,←HK.out.2,ay.app]
       exact o7
      have HG9:Hid (w5.grownBy w9 (Value.slice p m c).ownBlock):=g7
      clear o7 g7 l7
      obtain⟨pv,kv,rfl⟩:=ay.Own.form HO9.out
      have x3:=(ac (show bY w9 n1 (.pointer ba) (.slice pt ts.length ct) (.slice (some ⟨gF,oF,none⟩) F.length cf) (.slice p m c) from ae HG9.out HS5.out.sb (bE HS5.out.li HS5.out.sb (by decide))) 3).trans rfl
      have xf:=fun i=>ao (show bY w9 n1 (.pointer ba) (.slice pt ts.length ct) (.slice (some ⟨gF,oF,none⟩) F.length cf) (.slice p m c) from ae HG9.out HS5.out.sb (bE HS5.out.li HS5.out.sb (by decide))) i
      refine hK.out _ _ trivial (fun hHeld3=>?_)
      clear hK K9
      (try go_frame)
      refine QZ 6 rfl ?_
      go_frame
      refine QR 7 rfl (fun K9 hK=>?_)
      go_simp
      refine hK.out _ _ trivial (fun hHeld3=>?_)
      clear hK K9
      (try go_frame)
      refine QD ?_
      have HS9:Hid (SkS w (w9.setCell ⟨n1,3,none⟩ (.slice pv (swK R F (k+1)).length kv)) n0 n1 B B2 (.pointer ba) (.slice pt ts.length ct) (.slice (some ⟨gF,oF,none⟩) F.length cf) (.slice pv (swK R F (k+1)).length kv) (.slice (some ⟨gN,0,none⟩) R.length cN) (R.map Rw.nu) (swK R F (k+1))):=HS5.out.more HO9.out HG9.out HBB.out.2.2.1 HBB.out.2.2.2 HBB.out.2.1
      obtain⟨Y,hY⟩:∃ Y,Y=w9.setCell ⟨n1,3,none⟩ (.slice pv (swK R F (k+1)).length kv):=⟨_,rfl⟩
      rw[←hY] at HS9 ⊢
      clear hY x3 xf c0 c1 c2 c3
      go_wp2_with fail
      go_roundw
      case rel=>exact⟨k+1,pv,(swK R F (k+1)).length,kv,Hk.out,by first | rfl | (rw[hwk];rfl) | go_num,HS9.out,rfl⟩
      case measure=>first | exact HM.out | (rw[hwk];exact HM.out)
     ·simp only[QA,QB,QC]
      go_simp
      go_at_call 130
      refine(CW _ (by first | exact aq _ _ | exact ag _)).mono ?_
      rintro e5 w5 ⟨v5,rfl,o5,g5⟩
      have HG5:Hid (U.grownBy w5 none):=aa (ag _) g5
      have HO5:Hid (bi w5 U.heap.size v5 (bQ ((j:Int)+1) r0.ps)):=o5
      clear o5 g5
      have c3:=HG5.out.cell c3 (by simp)
      refine hK.out _ _ trivial (fun hHeld3=>?_)
      clear hK K9
      (try go_frame)
      refine QR 1 rfl (fun K9 hK=>?_)
      go_simp
      refine hK.out _ _ trivial (fun hHeld3=>?_)
      clear hK K9
      (try go_frame)
      obtain⟨p5,k5,rfl⟩:=ay.Own.form HO5.out
      have HS5:Hid (SkS w w5 n0 n1 B B2 (.pointer ba) (.slice pt ts.length ct) (.slice (some ⟨gF,oF,none⟩) F.length cf) (.slice p m c) (.slice (some ⟨gN,0,none⟩) R.length cN) (R.map Rw.nu) (swK R F k)):=HK.out.1.keep HG5.out
      have HOa:Hid (w5.ownsRow B 40 10 (.slice p m c) m (sdR.cs (swK R F k))):=by have:=HS5.out.li;unfold bi ay.Own at this;rw[←HK.out.2] at this;exact this
      have HSr:Hid (Src w5 (.slice p5 (bQ ((j:Int)+1) r0.ps).length k5) (bQ ((j:Int)+1) r0.ps).length 10 (sdR.cs (bQ ((j:Int)+1) r0.ps))):=(ay.Own.at HO5.out).src
      have HB5:Hid (B≤w5.heap.size):=HS5.out.hs
      refine QR 5 rfl (fun K9 hK=>?_)
      refine iQ (.tmp 44) (.tmp 47) 27 rfl B 40 i0 _ 10 56 Tryz.underlying27 hi hz0 hz1 hz2 rfl (by decide) (.slice p m c) m (sdR.cs (swK R F k)) rfl HOa.out (.slice p5 (bQ ((j:Int)+1) r0.ps).length k5) (bQ ((j:Int)+1) r0.ps).length (sdR.cs (bQ ((j:Int)+1) r0.ps)) rfl HSr.out (ay.ones sdR _) HRm.out.1 HRm.out.2 HB5.out ?_
      intro v' w7 o7 g7 l7
      obtain⟨w9,hw9⟩:∃ w9,w9=w7:=⟨_,rfl⟩
      subst hw9
      obtain⟨v9,hv9⟩:∃ v9,v9=v':=⟨_,rfl⟩
      subst hv9
      have HO9:Hid (bi w9 B v9 (swK R F (k+1))):=by
       rw[HN.out]
       unfold bi ay.Own
       rw[List.length_append,←HK.out.2,ay.app]
       exact o7
      have HG9:Hid (w5.grownBy w9 (Value.slice p m c).ownBlock):=g7
      clear o7 g7 l7
      obtain⟨pv,kv,rfl⟩:=ay.Own.form HO9.out
      have x3:=(ac (show bY w9 n1 (.pointer ba) (.slice pt ts.length ct) (.slice (some ⟨gF,oF,none⟩) F.length cf) (.slice p m c) from ae HG9.out HS5.out.sb (bE HS5.out.li HS5.out.sb (by decide))) 3).trans rfl
      have xf:=fun i=>ao (show bY w9 n1 (.pointer ba) (.slice pt ts.length ct) (.slice (some ⟨gF,oF,none⟩) F.length cf) (.slice p m c) from ae HG9.out HS5.out.sb (bE HS5.out.li HS5.out.sb (by decide))) i
      refine hK.out _ _ trivial (fun hHeld3=>?_)
      clear hK K9
      (try go_frame)
      refine QZ 6 rfl ?_
      go_frame
      refine QR 7 rfl (fun K9 hK=>?_)
      go_simp
      refine hK.out _ _ trivial (fun hHeld3=>?_)
      clear hK K9
      (try go_frame)
      refine QD ?_
      have HS9:Hid (SkS w (w9.setCell ⟨n1,3,none⟩ (.slice pv (swK R F (k+1)).length kv)) n0 n1 B B2 (.pointer ba) (.slice pt ts.length ct) (.slice (some ⟨gF,oF,none⟩) F.length cf) (.slice pv (swK R F (k+1)).length kv) (.slice (some ⟨gN,0,none⟩) R.length cN) (R.map Rw.nu) (swK R F (k+1))):=HS5.out.more HO9.out HG9.out HBB.out.2.2.1 HBB.out.2.2.2 HBB.out.2.1
      obtain⟨Y,hY⟩:∃ Y,Y=w9.setCell ⟨n1,3,none⟩ (.slice pv (swK R F (k+1)).length kv):=⟨_,rfl⟩
      rw[←hY] at HS9 ⊢
      clear hY x3 xf c0 c1 c2 c3
      go_wp2_with fail
      go_roundw
      case rel=>exact⟨k+1,pv,(swK R F (k+1)).length,kv,Hk.out,by first | rfl | (rw[hwk];rfl) | go_num,HS9.out,rfl⟩
      case measure=>first | exact HM.out | (rw[hwk];exact HM.out)
  ·obtain rfl:k=R.length:=Nat.le_antisymm hk' (Nat.le_of_not_lt hlt)
   have i1:¬(R.length:Int)<(R.length:Int):=Int.lt_irrefl _
   have HF:Hid (bY U n0 (.pointer none) (.slice none 0 0) (.slice none 0 0) (.slice none 0 0)∧w.grownBy U none∧bi U B (.slice p m c) (swL R F)):=⟨HK.out.1.rb,HK.out.1.gr,by have:=HK.out.1.li;rw[wP] at this;exact this⟩
   clear hk' hlt HK
   obtain⟨r0,r1,r2,r3⟩:=aR HF.out.1
   have rf:=fun i=>ao HF.out.1 i
   go_wp2_with fail
   refine bodyPost_ret (v:=.tuple #[.agg #[.pointer ba,.slice pt ts.length ct,.slice pf F.length cf,.slice p m c],.int .i64 0]) (by simp[results,Tryz.results62,go_sem,r0,r1,r2,r3]) rfl ⟨ba,pt,_,ct,pf,_,cf,p,m,c,by rw[HT.out.2.2.1],?_,fun R' _ hR'=>⟨rfl,rfl,rfl,?_⟩⟩
   ·exact fH HF.out.2.1 Hn0.out.1 _ _ _ _
   ·rw[HT.out.2.2.2] at hR'
    cases hR'
    exact aY (bX HF.out.2.2 (oy _ _ _ _ _ _) HF.out.1 (by decide)) HBB0.out.2.2.2
end Go.Proofs.YthfjgpjcepmnmaaGreat
