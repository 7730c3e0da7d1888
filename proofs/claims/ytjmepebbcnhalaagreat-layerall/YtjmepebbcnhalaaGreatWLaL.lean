/-
  
-/
import Derived.Test.YtjmepebbcnhalaaGreatW0
import Derived.Test.YtjmepebbcnhalaaGreatW52
import Derived.Test.YtjmepebbcnhalaaGreatW41
import Derived.Test.YtjmepebbcnhalaaGreatWLyF
namespace Go.Proofs.YtjmepebbcnhalaaGreat
set_option maxRecDepth 100000
set_option maxHeartbeats 40000000
open Go.RowKit Go.Shelf

structure LaU (w W3 U:World) (b0 b1 nO:Nat) (vc vm vt vf vs va vb:Value) (op:Bool) (cs:List Ent) (ms:List Mk) (ts:List Th) (fs:List Fe) (S:List Sd) (bT bF bS gA gB gC nA nF nS cA cB cC:Nat) (tz:List Th) (fz:List Fe) (sz:List Sd):Prop where
 pre:Pre w U b0 b1 vc vm vt vf op cs ms ts fs
 sd:sdR.At U vs S
 ot:thR.Own 120 U bT (.slice (some ⟨gA,0,none⟩) nA cA) tz
 of:feR.Own 122 U bF (.slice (some ⟨gB,0,none⟩) nF cB) fz
 os:sdR.Own 64 U bS (.slice (some ⟨gC,0,none⟩) nS cC) sz
 ob:nI U nO va vb
 g3:W3.grownBy U none
theorem LaU.keep {w W3 U V:World} {b0 b1 nO:Nat} {vc vm vt vf vs va vb:Value} {op:Bool} {cs:List Ent} {ms:List Mk} {ts:List Th} {fs:List Fe} {S:List Sd} {bT bF bS gA gB gC nA nF nS cA cB cC:Nat} {tz:List Th} {fz:List Fe} {sz:List Sd} (h:LaU w W3 U b0 b1 nO vc vm vt vf vs va vb op cs ms ts fs S bT bF bS gA gB gC nA nF nS cA cB cC tz fz sz) (g:U.grownBy V none):LaU w W3 V b0 b1 nO vc vm vt vf vs va vb op cs ms ts fs S bT bF bS gA gB gC nA nF nS cA cB cC tz fz sz:=⟨h.pre.keep g,h.sd.keep g,ar h.ot g,ar h.of g,ar h.os g,ai g h.ob (by simp),aa h.g3 g⟩
theorem CP {r n:Int} {cd:Int→Hd×List Pt} {ts:List Th} {fs:List Fe} {S:List Sd} {p p1:Int} (hc:∀ c,(cd c).2.length≤4) (h:(lkE r n cd ts fs S≠0→p=0)∧∀ R L,r=0→bi n cd ts fs=some R→aN R S []=some L→if L=[] then p=-1 else ∃ L':List Se,L'.Perm L∧L'.Pairwise inS∧p=Lib.idxBy fW S (L'.getD (bX R (aq R fs) L') Se.none).s) (h1:(lkE r n cd ts fs S≠0→p1=0)∧∀ R L,r=0→bi n cd ts fs=some R→aN R S []=some L→if L=[] then p1=-1 else ∃ x:Nat,p1=(x:Int)∧NxE R (aq R fs) ts S L x):p1=p:=by
 by_cases q:lkE r n cd ts fs S=0
 ·obtain⟨hr,R,L,hT,hL⟩:=vw q
  have x:=h.2 R L hr hT hL
  have y:=h1.2 R L hr hT hL
  by_cases h0:L=[]
  ·rw[if_pos h0] at x y
   rw[x,y]
  ·rw[if_neg h0] at x y
   obtain⟨L',hp,hs,rfl⟩:=x
   obtain⟨i,rfl,hi⟩:=y
   have hl:=LsN.of (Tab.of hT) hc hL
   exact(AX (Tab.of hT) hl (Cu hL hl) hp hs hi).symm
 ·rw[h.1 q,h1.1 q]
theorem Bg {r n k:Int} {cd:Int→Hd×List Pt} {ts:List Th} {fs:List Fe} (hc:∀ c,(cd c).2.length≤4):(efF r n cd ts fs k).length≤64:=by
 unfold efF
 split
 ·split
  ·rename_i R hT
   rw[List.length_map]
   exact(Tab.of hT).effs hc _ _
  ·exact Nat.zero_le _
 ·exact Nat.zero_le _
theorem AL {r n:Int} {cd:Int→Hd×List Pt} {ts:List Th} {fs:List Fe} {s:Sd}:(abF r n cd ts fs s).length≤2048:=by
 unfold abF
 split
 ·split
  ·rename_i R hT
   split
   ·exact Nat.le_trans (iO _ _ _) (Nat.le_trans (Tab.of hT).few (by decide))
   ·exact Nat.zero_le _
  ·exact Nat.zero_le _
 ·exact Nat.zero_le _
theorem Be {r n:Int} {cd:Int→Hd×List Pt} {ts:List Th} {fs:List Fe} {s:Sd}:(apF r n cd ts fs s).length≤fs.length:=by
 unfold apF
 split
 ·split
  ·split
   ·rw[iB];exact Nat.le_refl _
   ·exact Nat.zero_le _
  ·exact Nat.zero_le _
 ·exact Nat.zero_le _
theorem Bj {r n k:Int} {cd:Int→Hd×List Pt} {ts:List Th} {fs:List Fe}:(alX r n cd ts fs k).length≤fs.length:=by
 unfold alX
 split
 ·split
  ·rw[iB];exact Nat.le_refl _
  ·exact Nat.zero_le _
 ·exact Nat.zero_le _
theorem qb (vc vm vt vf vs:Value) (op:Bool) (cs:List Ent) (ms:List Mk) (ts:List Th) (fs:List Fe) (S:List Sd) (k:Int) (w:World) (FI:FiA w vc vm cs ms) (TH:thR.At w vt ts) (FE:feR.At w vf fs) (TR:TrI fs) (SA:sdR.At w vs S):Calls Tryz.prog 3 #[.agg #[vc,vm,.bool op],.agg #[vt,vf],vs,.int .i64 k] w fun e w'=>e=.returned (.bool true)∧w.grownBy w' none:=by
 obtain⟨pc,kc,pm,km,rfl,rfl⟩:=FI.forms
 obtain⟨pt,ct,rfl⟩:=TH.form
 obtain⟨pf,cf,rfl⟩:=FE.form
 obtain⟨ps,cS,rfl⟩:=SA.form
 obtain⟨W,hW⟩:∃ W,W=(w.alloc (.cells #[.slice pc cs.length kc,.slice pm ms.length km,.bool op] 25)).alloc (.cells #[.slice pt ts.length ct,.slice pf fs.length cf] 29):=⟨_,rfl⟩
 have HG:Hid (w.grownBy W none):=by rw[hW];exact am (World.grownBy_alloc _ _ none) _
 have H0:Hid (Pre w W w.heap.size (w.heap.size+1) (.slice pc cs.length kc) (.slice pm ms.length km) (.slice pt ts.length ct) (.slice pf fs.length cf) op cs ms ts fs∧sdR.At W (.slice ps S.length cS) S):=⟨⟨FI.keep HG.out,TH.keep HG.out,FE.keep HG.out,by rw[hW];exact jj _ _ _ _ _,by rw[hW];exact aL _ _ _ _,HG.out⟩,SA.keep HG.out⟩
 have HTr:Hid (TrI fs):=TR
 obtain⟨mS,hmS⟩:∃ m,m=S.length:=⟨_,rfl⟩
 have HmS:Hid (mS=S.length):=hmS
 rw[←hmS] at H0 ⊢
 clear FI TH FE TR SA hmS
 go_enter Tryz.func3,Tryz.ntmps3
 go_upto_region 1 with fail
 rw[←hW]
 obtain⟨b0,hb0⟩:∃ b0,b0=w.heap.size:=⟨_,rfl⟩
 obtain⟨b1,hb1⟩:∃ b1,b1=b0+1:=⟨_,rfl⟩
 rw[←hb0,←hb1] at H0 ⊢
 clear hW hb0 hb1 HG
 have C2:=xw pc pm pt pf cs.length ms.length ts.length fs.length kc km ct cf op W
 obtain⟨f0,f1,f2⟩:=uW H0.out.1.fb
 obtain⟨t0,t1⟩:=dm H0.out.1.tb
 go_wp2_with fail
 refine C2.mono ?_
 rintro e2 w2 ⟨rfl,g2⟩
 have H2:Hid (Pre w w2 b0 b1 (.slice pc cs.length kc) (.slice pm ms.length km) (.slice pt ts.length ct) (.slice pf fs.length cf) op cs ms ts fs∧sdR.At w2 (.slice ps mS cS) S):=⟨H0.out.1.keep g2,H0.out.2.keep g2⟩
 clear C2 g2 H0 f0 f1 f2 t0 t1
 cases hh:eH cs.length ms.length ts.length fs.length with
 | true =>
  go_wp2_with fail
  go_ret
  exact⟨rfl,H2.out.1.gr⟩
 | false =>
 by_cases hs70:70<mS
 ·have d70:decide ((70:Int)<(mS:Int))=true:=decide_eq_true (by omega)
  clear hh hs70
  go_wp2_with fail
  go_ret
  exact⟨rfl,H2.out.1.gr⟩
 ·have d70:decide ((70:Int)<(mS:Int))=false:=decide_eq_false (by omega)
  have HB:Hid (ts.length≤2100∧fs.length≤2100∧S.length≤70):=⟨(nR hh).2.2.1,(nR hh).2.2.2,by rw[←HmS.out];omega⟩
  clear hh hs70
  have C3:=wi _ _ op cs ms w2 H2.out.1.fi
  unfold kO at C3
  obtain⟨f0,f1,f2⟩:=uW H2.out.1.fb
  obtain⟨nB,hnB⟩:∃ nB,nB=w2.heap.size+1:=⟨_,rfl⟩
  rw[←hnB] at C3
  clear hnB
  go_wp2_with fail
  clear d70
  refine C3.mono ?_
  rintro e3 w3 ⟨v1,es,gs,p,rfl,P,hNd,g3⟩
  have HP:Hid (Pr (okB nB) w3 nB (nB+1) v1 es gs p):=P
  have H3:Hid (Pre w w3 b0 b1 (.slice pc cs.length kc) (.slice pm ms.length km) (.slice pt ts.length ct) (.slice pf fs.length cf) op cs ms ts fs∧sdR.At w3 (.slice ps mS cS) S):=⟨H2.out.1.keep g3,H2.out.2.keep g3⟩
  clear C3 P hNd g3 f0 f1 f2 H2
  obtain⟨r,hr⟩:∃ r,r=bG p ts.length:=⟨_,rfl⟩
  obtain⟨m,hm⟩:∃ m,m=(gs.length:Int):=⟨_,rfl⟩
  obtain⟨cd,hcd⟩:∃ cd,cd=atC p gs:=⟨_,rfl⟩
  have Hc4:Hid (∀ c,(cd c).2.length≤4):=by rw[hcd];exact HP.out.rd.four
  have HLI:Hid (∀ Y vt' vf',w3.grownBy Y none→thR.At Y vt' ts→feR.At Y vf' fs→LIn Y (.pointer (some ⟨nB,0,none⟩)) vt' vf' r m cd ts fs):=fun Y vt' vf' g A F'=>by
   have z:=LIn.of' (HP.out.book.keep g) A F'
   rw[kF HP.out.same,show atC p es=atC p gs from funext fun n=>Cn HP.out.same p n,←hr,←hm,←hcd] at z
   exact z
  have HRN:Hid (∀ Y,w3.grownBy Y none→Calls Tryz.prog 12 #[.pointer (some ⟨nB+1,0,none⟩),.slice pt ts.length ct,.slice pf fs.length cf,.slice ps mS cS] Y (qg Y r m cd ts fs S)):=fun Y g=>by
   rw[hr,hm,hcd]
   exact wX (okB nB) (nB+1) v1 p gs _ _ _ ts fs S Y (HP.out.rd.keep g) (H3.out.1.th.keep g) (H3.out.1.fe.keep g) (H3.out.2.keep g) HTr.out
  have HRE:Hid (∀ Y,w3.grownBy Y none→Calls Tryz.prog 14 #[.pointer (some ⟨nB+1,0,none⟩),.slice pt ts.length ct,.slice pf fs.length cf,.int .i64 k] Y (DPl (bgE r m cd ts fs k) (efF r m cd ts fs k) Y)):=fun Y g=>by
   rw[hr,hm,hcd]
   exact(kj (okB nB) (nB+1) v1 p gs _ _ ts fs k Y (HP.out.rd.keep g) (H3.out.1.th.keep g) (H3.out.1.fe.keep g) HTr.out).mono fun e w' z=>z.ef
  have HRA:Hid (∀ Y,w3.grownBy Y none→Calls Tryz.prog 16 #[.pointer (some ⟨nB+1,0,none⟩),.slice pt ts.length ct,.slice pf fs.length cf,.int .i64 k] Y (FDP (bgE r m cd ts fs k) (alX r m cd ts fs k) (alY r m cd ts fs k) Y)):=fun Y g=>by
   rw[hr,hm,hcd]
   exact(zv (okB nB) (nB+1) v1 p gs _ _ ts fs k Y (HP.out.rd.keep g) (H3.out.1.th.keep g) (H3.out.1.fe.keep g) HTr.out).mono fun e w' z=>z.al
  have HRb:Hid (∀ Y (s:Sd),w3.grownBy Y none→Calls Tryz.prog 74 #[.pointer (some ⟨nB+1,0,none⟩),.slice pt ts.length ct,.slice pf fs.length cf,sdv s] Y (AbP (lkE r m cd ts fs [s]) (abF r m cd ts fs s) Y)):=fun Y s g=>by
   rw[hr,hm,hcd]
   exact(sU (okB nB) (nB+1) v1 p gs _ _ ts fs s Y (HP.out.rd.keep g) (H3.out.1.th.keep g) (H3.out.1.fe.keep g) HTr.out).mono fun e w' z=>z.ab
  have HRp:Hid (∀ Y (s:Sd),w3.grownBy Y none→Calls Tryz.prog 76 #[.pointer (some ⟨nB+1,0,none⟩),.slice pt ts.length ct,.slice pf fs.length cf,sdv s] Y (FPl (lkE r m cd ts fs [s]) (apF r m cd ts fs s) Y)):=fun Y s g=>by
   rw[hr,hm,hcd]
   exact(uF (okB nB) (nB+1) v1 p gs _ _ ts fs s Y (HP.out.rd.keep g) (H3.out.1.th.keep g) (H3.out.1.fe.keep g) HTr.out).mono fun e w' z=>z.ap
  have HRd:Hid (∀ Y (s o:Sd),w3.grownBy Y none→Calls Tryz.prog 78 #[.pointer (some ⟨nB+1,0,none⟩),.slice pt ts.length ct,.slice pf fs.length cf,sdv s,sdv o] Y (DpP (lkE r m cd ts fs [s,o]) (dpF r m cd ts fs s o) Y)):=fun Y s o g=>by
   rw[hr,hm,hcd]
   exact(qr (okB nB) (nB+1) v1 p gs _ _ ts fs s o Y (HP.out.rd.keep g) (H3.out.1.th.keep g) (H3.out.1.fe.keep g) HTr.out).mono fun e w' z=>z.dp
  clear HP hr hm hcd
  clear p es gs v1
  have D3:Hid (w3.grownBy w3.drew none):=ag _
  have C4:=uh _ ts w3.drew (H3.out.1.th.keep D3.out) (by have:=HB.out;omega)
  obtain⟨t0,t1⟩:=dm H3.out.1.tb
  go_upto_region 6 with fail
  refine wp_region_held_drew (S:=fun w'=>w3.grownBy w' none) (by kernel_rfl) (ag _) (fun hHeld=>?_)
  refine QZ 0 rfl ?_
  go_frame
  refine QT 1 rfl (by intro w0 hSw;have t0:=hSw.cell t0 (by simp);go_simp;try with_reducible rfl) ?_
  go_frame
  refine QZ 3 rfl ?_
  go_frame
  refine QT 4 rfl (by intro w0 hSw;have t1:=hSw.cell t1 (by simp);go_simp;try with_reducible rfl) ?_
  go_frame
  refine QZ 6 rfl ?_
  go_frame
  clear t0 t1
  refine QR 2 rfl (fun K hK=>?_)
  go_simp
  go_at_call 8
  refine(C4).mono ?_
  rintro e4 w4 ⟨vA,rfl,oA,g4⟩
  obtain⟨tz,htz⟩:∃ tz,tz=ts++[dc,dc]:=⟨_,rfl⟩
  rw[←htz] at oA
  obtain⟨nA,hnA⟩:∃ n,n=tz.length:=⟨_,rfl⟩
  have HnA:Hid (tz=ts++[dc,dc]∧nA=tz.length∧nA=ts.length+2):=⟨htz,hnA,by rw[hnA,htz,List.length_append] <;> rfl⟩
  have z:=oA
  unfold aB.Own at z
  rw[←hnA] at z
  obtain⟨gA,cA,rfl,bgA,lgA,ncA,-,-⟩:=cc z (by rw[HnA.out.2.2];omega)
  obtain⟨bT,hbT⟩:∃ b,b=w3.drew.heap.size:=⟨_,rfl⟩
  rw[←hbT] at oA bgA
  have HA:Hid (bT≤gA∧gA<w4.heap.size∧nA≤cA∧w3.heap.size≤bT):=⟨bgA,lgA,ncA,by rw[hbT];exact D3.out.size⟩
  have H4:Hid (w3.grownBy w4 none∧thR.Own 120 w4 bT (.slice (some ⟨gA,0,none⟩) nA cA) tz):=⟨aa D3.out g4,oA⟩
  clear C4 z oA bgA lgA ncA hbT htz hnA g4 D3
  have C5:=uy _ fs w4 (H3.out.1.fe.keep H4.out.1) (by have:=HB.out;omega)
  refine hK.out _ _ (H4.out.1) (fun hHeld2=>?_)
  clear hK K
  (try go_frame)
  refine QR 5 rfl (fun K hK=>?_)
  go_simp
  go_at_call 9
  refine(C5).mono ?_
  rintro e5 w5 ⟨vB,rfl,oB,g5⟩
  obtain⟨fz,hfz⟩:∃ fz,fz=fs++[de,de]:=⟨_,rfl⟩
  rw[←hfz] at oB
  obtain⟨nF,hnF⟩:∃ n,n=fz.length:=⟨_,rfl⟩
  have HnF:Hid (fz=fs++[de,de]∧nF=fz.length∧nF=fs.length+2):=⟨hfz,hnF,by rw[hnF,hfz,List.length_append] <;> rfl⟩
  have z:=oB
  unfold aB.Own at z
  rw[←hnF] at z
  obtain⟨gB,cB,rfl,bgB,lgB,ncB,-,-⟩:=cc z (by rw[HnF.out.2.2];omega)
  obtain⟨bF,hbF⟩:∃ b,b=w4.heap.size:=⟨_,rfl⟩
  rw[←hbF] at oB bgB HA
  have HBB:Hid (bF≤gB∧gB<w5.heap.size∧nF≤cB):=⟨bgB,lgB,ncB⟩
  have H5:Hid (w3.grownBy w5 none∧thR.Own 120 w5 bT (.slice (some ⟨gA,0,none⟩) nA cA) tz∧feR.Own 122 w5 bF (.slice (some ⟨gB,0,none⟩) nF cB) fz):=⟨aa H4.out.1 g5,ar H4.out.2 g5,oB⟩
  clear C5 z oB bgB lgB ncB hbF hfz hnF g5 H4
  have C6:=uJ _ S w5 (by have z:=H3.out.2.keep H5.out.1;exact z) (by have:=HB.out;omega)
  refine hK.out _ _ (H5.out.1) (fun hHeld2=>?_)
  clear hK K
  (try go_frame)
  refine QR 7 rfl (fun K hK=>?_)
  go_simp
  go_at_call 10
  refine(C6).mono ?_
  rintro e6 w6 ⟨vC,rfl,oC,g6⟩
  obtain⟨sz,hsz⟩:∃ sz,sz=S++[dg,dg]:=⟨_,rfl⟩
  rw[←hsz] at oC
  obtain⟨nS,hnS⟩:∃ n,n=sz.length:=⟨_,rfl⟩
  have HnS:Hid (sz=S++[dg,dg]∧nS=sz.length∧nS=S.length+2):=⟨hsz,hnS,by rw[hnS,hsz,List.length_append] <;> rfl⟩
  have z:=oC
  unfold aB.Own at z
  rw[←hnS] at z
  obtain⟨gC,cC,rfl,bgC,lgC,ncC,-,-⟩:=cc z (by rw[HnS.out.2.2];omega)
  obtain⟨bS,hbS⟩:∃ b,b=w5.heap.size:=⟨_,rfl⟩
  rw[←hbS] at oC bgC HBB
  have HCC:Hid (bS≤gC∧gC<w6.heap.size∧nS≤cC):=⟨bgC,lgC,ncC⟩
  have H6:Hid (w3.grownBy w6 none∧thR.Own 120 w6 bT (.slice (some ⟨gA,0,none⟩) nA cA) tz∧feR.Own 122 w6 bF (.slice (some ⟨gB,0,none⟩) nF cB) fz∧sdR.Own 64 w6 bS (.slice (some ⟨gC,0,none⟩) nS cC) sz):=⟨aa H5.out.1 g6,ar H5.out.2.1 g6,ar H5.out.2.2 g6,oC⟩
  clear C6 z oC bgC lgC ncC hbS hsz hnS g6 H5
  refine hK.out _ _ (H6.out.1) (fun hHeld2=>?_)
  clear hK K
  (try go_frame)
  refine QZ 8 rfl ?_
  go_frame
  refine QZ 9 rfl ?_
  go_frame
  refine QZ 10 rfl ?_
  go_frame
  refine QD ?_
  clear hHeld hHeld2
  have ka1:(ts.length:Int)≤(cA:Int):=by have:=HA.out.2.2.1;have:=HnA.out.2.2;omega
  have ka2:ts.length≤cA:=by have:=HA.out.2.2.1;have:=HnA.out.2.2;omega
  have kb1:(fs.length:Int)≤(cB:Int):=by have:=HBB.out.2.2;have:=HnF.out.2.2;omega
  have kb2:fs.length≤cB:=by have:=HBB.out.2.2;have:=HnF.out.2.2;omega
  have kc1:(mS:Int)≤(cC:Int):=by have:=HCC.out.2.2;have:=HnS.out.2.2;have:=HmS.out;omega
  have kc2:mS≤cC:=by have:=HCC.out.2.2;have:=HnS.out.2.2;have:=HmS.out;omega
  obtain⟨t0,t1⟩:=dm (H3.out.1.keep H6.out.1).tb
  go_upto_region 7 with fail
  refine wp_region_held_drew (S:=fun w'=>w6.grownBy w' none) (by kernel_rfl) (ag _) (fun hHeld=>?_)
  refine QZ 0 rfl ?_
  go_frame
  refine QZ 1 rfl ?_
  go_frame
  refine QT 2 rfl (by intro w0 hSw;have t0:=hSw.cell t0 (by simp);go_simp;try with_reducible rfl) ?_
  go_frame
  refine QZ 3 rfl ?_
  go_frame
  refine QZ 4 rfl ?_
  go_frame
  refine QZ 5 rfl ?_
  go_frame
  refine QZ 6 rfl ?_
  go_frame
  refine QT 7 rfl (by intro w0 hSw;have t1:=hSw.cell t1 (by simp);go_simp;try with_reducible rfl) ?_
  go_frame
  refine QZ 8 rfl ?_
  go_frame
  refine QZ 9 rfl ?_
  go_frame
  refine QZ 10 rfl ?_
  go_frame
  clear t0 t1
  refine QR 11 rfl (fun K9 hK=>?_)
  go_simp
  refine hK.out _ _ (am (ag _) _) (fun hHeld3=>?_)
  clear hK K9
  (try go_frame)
  obtain⟨Z,hZ⟩:∃ Z,Z=(w6.alloc (.cells #[.slice none 0 0,.slice none 0 0] 29)).drew:=⟨_,rfl⟩
  have HZ:Hid (w6.grownBy Z none∧nI Z w6.heap.size (.slice none 0 0) (.slice none 0 0)):=by rw[hZ];exact⟨aa (World.grownBy_alloc _ _ none) (ag _),ai (ag _) (ak _ _ _) (by simp)⟩
  rw[←hZ] at hHeld3 ⊢
  clear hZ
  obtain⟨nO,hnO⟩:∃ n,n=w6.heap.size:=⟨_,rfl⟩
  have HnO:Hid (nO=w6.heap.size):=hnO
  rw[←hnO] at HZ ⊢
  clear hnO
  refine QR 12 rfl (fun K9 hK=>?_)
  refine wp_store_row 29 (.tmp 15) (.tmp 72) rfl nO #[.slice (some ⟨gA,0,none⟩) ts.length cA,.slice (some ⟨gB,0,none⟩) fs.length cB] rfl rfl 29 _ HZ.out.2 (by kernel_rfl) rfl (by simp[Value.oneCell']) ?_
  refine hK.out _ _ (dL HZ.out.1 (by rw[HnO.out];exact Nat.le_refl _) _) (fun hHeld4=>?_)
  clear hK K9
  (try go_frame)
  refine QD ?_
  obtain⟨V,hV⟩:∃ V,V=Z.setRow nO #[.slice (some ⟨gA,0,none⟩) ts.length cA,.slice (some ⟨gB,0,none⟩) fs.length cB]:=⟨_,rfl⟩
  have GV:w6.grownBy V none:=by rw[hV];exact dL HZ.out.1 (by rw[HnO.out];exact Nat.le_refl _) _
  have HU:Hid (LaU w w3 V b0 b1 nO (.slice pc cs.length kc) (.slice pm ms.length km) (.slice pt ts.length ct) (.slice pf fs.length cf) (.slice ps mS cS) (.slice (some ⟨gA,0,none⟩) ts.length cA) (.slice (some ⟨gB,0,none⟩) fs.length cB) op cs ms ts fs S bT bF bS gA gB gC nA nF nS cA cB cC tz fz sz):=⟨H3.out.1.keep (aa H6.out.1 GV),H3.out.2.keep (aa H6.out.1 GV),ar H6.out.2.1 GV,ar H6.out.2.2.1 GV,ar H6.out.2.2.2 GV,by rw[hV];exact setRow_heap _ _ _ _ _ _ HZ.out.2,aa H6.out.1 GV⟩
  rw[←hV]
  clear hV GV HZ H6 hHeld hHeld3 hHeld4
  have HAt:Hid (∀ Y,V.grownBy Y none→thR.At Y (.slice (some ⟨gA,0,none⟩) ts.length cA) ts∧feR.At Y (.slice (some ⟨gB,0,none⟩) fs.length cB) fs∧sdR.At Y (.slice (some ⟨gC,0,none⟩) mS cC) S∧w3.grownBy Y none):=fun Y g=>by
   have t1:=aB.At.take (aB.Own.at (ar HU.out.ot g)) ts.length (by rw[HnA.out.2.2];omega)
   have t2:=aB.At.take (aB.Own.at (ar HU.out.of g)) fs.length (by rw[HnF.out.2.2];omega)
   have t3:=aB.At.take (aB.Own.at (ar HU.out.os g)) S.length (by rw[HnS.out.2.2];omega)
   rw[HnA.out.1,List.take_left] at t1
   rw[HnF.out.1,List.take_left] at t2
   rw[HnS.out.1,List.take_left,←HmS.out] at t3
   exact⟨t1,t2,t3,aa HU.out.g3 g⟩
  have HIn:Hid (∀ Y,V.grownBy Y none→LIn Y (.pointer (some ⟨nB,0,none⟩)) (.slice (some ⟨gA,0,none⟩) ts.length cA) (.slice (some ⟨gB,0,none⟩) fs.length cB) r m cd ts fs):=fun Y g=>HLI.out Y _ _ (HAt.out Y g).2.2.2 (HAt.out Y g).1 (HAt.out Y g).2.1
  have HKp:Hid (∀ Y,V.grownBy Y none→w3.grownBy Y none):=fun Y g=>(HAt.out Y g).2.2.2
  clear HLI ka1 ka2 kb1 kb2
  obtain⟨u0,u1⟩:=dm HU.out.ob
  have CN:=vW _ _ _ (.slice (some ⟨gC,0,none⟩) mS cC) r m cd ts fs S V.drew (HIn.out _ (ag _)) (HAt.out _ (ag _)).2.2.1 (by have:=HB.out.2.2;omega)
  unfold nk at CN
  obtain⟨q0,hq0⟩:∃ q,q=lkE r m cd ts fs S:=⟨_,rfl⟩
  have Hq0:Hid (lkE r m cd ts fs S=q0):=hq0.symm
  rw[Hq0.out] at CN
  clear hq0
  go_upto_region 8 with fail
  refine wp_region_held_drew (S:=fun w'=>V.grownBy w' none) (by kernel_rfl) (ag _) (fun hHeld=>?_)
  refine QZ 0 rfl ?_
  go_frame
  refine QZ 1 rfl ?_
  go_frame
  refine QT 2 rfl (by intro w0 hSw;have u0:=hSw.cell u0 (by simp);go_simp;try with_reducible rfl) ?_
  go_frame
  refine QZ 3 rfl ?_
  go_frame
  refine QT 4 rfl (by intro w0 hSw;have u1:=hSw.cell u1 (by simp);go_simp;try with_reducible rfl) ?_
  go_frame
  refine QZ 5 rfl ?_
  go_frame
  refine QZ 6 rfl ?_
  go_frame
  refine QZ 7 rfl ?_
  go_frame
  refine QZ 8 rfl ?_
  go_frame
  clear u0 u1 kc1 kc2
  refine QR 9 rfl (fun K hK=>?_)
  go_simp
  go_at_call 11
  refine(CN).mono ?_
  rintro e7 w7 ⟨p7,rfl,g7,a7,b7⟩
  have HN7:Hid ((lkE r m cd ts fs S≠0→p7=0)∧∀ R L,r=0→bi m cd ts fs=some R→aN R S []=some L→if L=[] then p7=-1 else ∃ L':List Se,L'.Perm L∧L'.Pairwise inS∧p7=Lib.idxBy fW S (L'.getD (bX R (aq R fs) L') Se.none).s):=⟨fun z=>a7 (by rw[←Hq0.out];exact z),b7⟩
  have H7:Hid (V.grownBy w7 none):=aa (ag _) g7
  clear CN g7 a7 b7
  refine hK.out _ _ (H7.out) (fun hHeld2=>?_)
  clear hK K
  (try go_frame)
  refine QZ 10 rfl ?_
  go_frame
  refine QZ 11 rfl ?_
  go_frame
  refine QZ 12 rfl ?_
  go_frame
  refine QZ 13 rfl ?_
  go_frame
  refine QZ 14 rfl ?_
  go_frame
  refine QD ?_
  clear hHeld hHeld2
  have HU7:Hid (LaU w w3 w7 b0 b1 nO (.slice pc cs.length kc) (.slice pm ms.length km) (.slice pt ts.length ct) (.slice pf fs.length cf) (.slice ps mS cS) (.slice (some ⟨gA,0,none⟩) ts.length cA) (.slice (some ⟨gB,0,none⟩) fs.length cB) op cs ms ts fs S bT bF bS gA gB gC nA nF nS cA cB cC tz fz sz):=HU.out.keep H7.out
  obtain⟨t0,t1⟩:=dm HU7.out.pre.tb
  have CM:=HRN.out w7 (HKp.out _ H7.out)
  unfold qg at CM
  rw[Hq0.out] at CM
  go_wp2_with fail
  refine CM.mono ?_
  rintro e8 w8 ⟨p8,rfl,g8,a8,b8⟩
  obtain rfl:=CP Hc4.out HN7.out ⟨fun z=>a8 (by rw[←Hq0.out];exact z),b8⟩
  have H8:Hid (V.grownBy w8 none∧LaU w w3 w8 b0 b1 nO (.slice pc cs.length kc) (.slice pm ms.length km) (.slice pt ts.length ct) (.slice pf fs.length cf) (.slice ps mS cS) (.slice (some ⟨gA,0,none⟩) ts.length cA) (.slice (some ⟨gB,0,none⟩) fs.length cB) op cs ms ts fs S bT bF bS gA gB gC nA nF nS cA cB cC tz fz sz):=⟨aa H7.out g8,HU7.out.keep g8⟩
  clear CM g8 a8 b8 HN7 HRN t0 t1 HU7 H7 Hq0
  obtain⟨u0,u1⟩:=dm H8.out.2.ob
  obtain⟨E,hE⟩:∃ E,E=efF r m cd ts fs k:=⟨_,rfl⟩
  obtain⟨X,hX⟩:∃ X,X=alX r m cd ts fs k:=⟨_,rfl⟩
  obtain⟨Y2,hY2⟩:∃ Y,Y=alY r m cd ts fs k:=⟨_,rfl⟩
  obtain⟨q1,hq1⟩:∃ q,q=bgE r m cd ts fs k:=⟨_,rfl⟩
  have HEL:Hid (E.length≤64∧aZ X.length):=⟨by rw[hE];exact Bg Hc4.out,by rw[hX];have z:=Bj (r:=r) (n:=m) (k:=k) (cd:=cd) (ts:=ts) (fs:=fs);have:=HB.out.2.1;unfold aZ;omega⟩
  have HPE:Hid (∀ Y,V.grownBy Y none→Calls Tryz.prog 13 #[.pointer (some ⟨nB,0,none⟩),.slice (some ⟨gA,0,none⟩) ts.length cA,.slice (some ⟨gB,0,none⟩) fs.length cB,.int .i64 k] Y (DPl q1 E Y)):=fun Y g=>by rw[hq1,hE];exact(oW _ _ _ r m cd ts fs k Y (HIn.out Y g)).mono fun e w' z=>z.ef
  have HPA:Hid (∀ Y,V.grownBy Y none→Calls Tryz.prog 15 #[.pointer (some ⟨nB,0,none⟩),.slice (some ⟨gA,0,none⟩) ts.length cA,.slice (some ⟨gB,0,none⟩) fs.length cB,.int .i64 k] Y (FDP q1 X Y2 Y)):=fun Y g=>by rw[hq1,hX,hY2];exact(yS _ _ _ r m cd ts fs k Y (HIn.out Y g)).mono fun e w' z=>z.al
  rw[←hq1,←hE] at HRE
  rw[←hq1,←hX,←hY2] at HRA
  clear hE hX hY2 hq1
  have C9:=HPE.out w8 H8.out.1
  unfold DPl at C9
  go_wp2_with fail
  refine C9.mono ?_
  rintro e9 w9 ⟨v,rfl,g,o⟩
  obtain⟨pe,ce,rfl⟩:=aB.Own.form o
  have H9:Hid (V.grownBy w9 none∧LaU w w3 w9 b0 b1 nO (.slice pc cs.length kc) (.slice pm ms.length km) (.slice pt ts.length ct) (.slice pf fs.length cf) (.slice ps mS cS) (.slice (some ⟨gA,0,none⟩) ts.length cA) (.slice (some ⟨gB,0,none⟩) fs.length cB) op cs ms ts fs S bT bF bS gA gB gC nA nF nS cA cB cC tz fz sz∧Rws sdR 64 w9 [(w8.heap.size,.slice pe E.length ce,E)]):=⟨aa H8.out.1 g,H8.out.2.keep g,(Rws.nil _ _ _).cons g o⟩
  have H9z:Hid (w8.heap.size≤w9.heap.size):=g.size
  clear C9 g o u0 u1
  obtain⟨t0,t1⟩:=dm H9.out.2.1.pre.tb
  have C10:=HRE.out w9 (HKp.out _ H9.out.1)
  unfold DPl at C10
  go_wp2_with fail
  refine C10.mono ?_
  rintro e10 w10 ⟨v,rfl,g,o⟩
  obtain⟨pw,cw,rfl⟩:=aB.Own.form o
  have H10:Hid (V.grownBy w10 none∧LaU w w3 w10 b0 b1 nO (.slice pc cs.length kc) (.slice pm ms.length km) (.slice pt ts.length ct) (.slice pf fs.length cf) (.slice ps mS cS) (.slice (some ⟨gA,0,none⟩) ts.length cA) (.slice (some ⟨gB,0,none⟩) fs.length cB) op cs ms ts fs S bT bF bS gA gB gC nA nF nS cA cB cC tz fz sz∧Rws sdR 64 w10 [(w8.heap.size,.slice pe E.length ce,E)]∧sdR.Own 64 w10 0 (.slice pw E.length cw) E):=⟨aa H9.out.1 g,H9.out.2.1.keep g,H9.out.2.2.keep g,aT o (Nat.zero_le _)⟩
  have H9s:Hid (w8.heap.size≤w10.heap.size∧V.heap.size≤w8.heap.size):=⟨Nat.le_trans H9z.out g.size,H8.out.1.size⟩
  clear C10 g o t0 t1 H9
  obtain⟨u0,u1⟩:=dm H10.out.2.1.ob
  have C11:=HPA.out w10 H10.out.1
  unfold FDP at C11
  go_wp2_with fail
  refine C11.mono ?_
  rintro e11 w11 ⟨v,u,rfl,g,o,o2⟩
  obtain⟨px,cx,rfl⟩:=aB.Own.form o
  obtain⟨py,cy,rfl⟩:=aB.Own.form o2
  have H11:Hid (V.grownBy w11 none∧LaU w w3 w11 b0 b1 nO (.slice pc cs.length kc) (.slice pm ms.length km) (.slice pt ts.length ct) (.slice pf fs.length cf) (.slice ps mS cS) (.slice (some ⟨gA,0,none⟩) ts.length cA) (.slice (some ⟨gB,0,none⟩) fs.length cB) op cs ms ts fs S bT bF bS gA gB gC nA nF nS cA cB cC tz fz sz∧Rws sdR 64 w11 [(w10.heap.size,.slice py Y2.length cy,Y2),(w8.heap.size,.slice pe E.length ce,E)]∧sdR.Own 64 w11 0 (.slice pw E.length cw) E∧feR.Own 122 w11 w10.heap.size (.slice px X.length cx) X):=⟨aa H10.out.1 g,H10.out.2.1.keep g,H10.out.2.2.1.cons g o2,ar H10.out.2.2.2 g,o⟩
  have H11z:Hid (w10.heap.size≤w11.heap.size):=g.size
  clear C11 g o o2 u0 u1 H10
  obtain⟨t0,t1⟩:=dm H11.out.2.1.pre.tb
  have C12:=HRA.out w11 (HKp.out _ H11.out.1)
  unfold FDP at C12
  go_wp2_with fail
  refine C12.mono ?_
  rintro e12 w12 ⟨v,u,rfl,g,o,o2⟩
  obtain⟨pu,cu,rfl⟩:=aB.Own.form o
  obtain⟨pv,cv,rfl⟩:=aB.Own.form o2
  have H12:Hid (V.grownBy w12 none∧LaU w w3 w12 b0 b1 nO (.slice pc cs.length kc) (.slice pm ms.length km) (.slice pt ts.length ct) (.slice pf fs.length cf) (.slice ps mS cS) (.slice (some ⟨gA,0,none⟩) ts.length cA) (.slice (some ⟨gB,0,none⟩) fs.length cB) op cs ms ts fs S bT bF bS gA gB gC nA nF nS cA cB cC tz fz sz∧Rws sdR 64 w12 [(w10.heap.size,.slice py Y2.length cy,Y2),(w8.heap.size,.slice pe E.length ce,E)]∧sdR.Own 64 w12 0 (.slice pw E.length cw) E∧feR.Own 122 w12 w10.heap.size (.slice px X.length cx) X∧feR.Own 122 w12 0 (.slice pu X.length cu) X∧sdR.Own 64 w12 0 (.slice pv Y2.length cv) Y2):=⟨aa H11.out.1 g,H11.out.2.1.keep g,H11.out.2.2.1.keep g,ar H11.out.2.2.2.1 g,ar H11.out.2.2.2.2 g,aT o (Nat.zero_le _),aT o2 (Nat.zero_le _)⟩
  have HBs:Hid (V.heap.size≤w8.heap.size∧w8.heap.size≤w10.heap.size∧w10.heap.size≤w12.heap.size):=⟨H9s.out.2,H9s.out.1,Nat.le_trans H11z.out g.size⟩
  clear C12 g o o2 t0 t1 H11 H11z H9s H9z H8
  clear HRE HRA HPE HPA
  obtain⟨b8,hb8⟩:∃ b,b=w8.heap.size:=⟨_,rfl⟩
  obtain⟨b10,hb10⟩:∃ b,b=w10.heap.size:=⟨_,rfl⟩
  rw[←hb8,←hb10] at H12 HBs
  clear hb8 hb10
  have e1:(p8 != p8)=false:=by simp
  have e2:(q0 != q0)=false:=by simp
  have e3:(q1 != q1)=false:=by simp
  have C13:=mo _ _ E w12 (aB.Own.at (H12.out.2.2.1.all _ (List.mem_cons_of_mem _ List.mem_cons_self))) (aB.Own.at H12.out.2.2.2.1) (vG H12.out.2.2.2.1)
  go_wp2_with fail
  refine C13.mono ?_
  rintro e13 w13 ⟨rfl,g⟩
  have H13:Hid (V.grownBy w13 none∧LaU w w3 w13 b0 b1 nO (.slice pc cs.length kc) (.slice pm ms.length km) (.slice pt ts.length ct) (.slice pf fs.length cf) (.slice ps mS cS) (.slice (some ⟨gA,0,none⟩) ts.length cA) (.slice (some ⟨gB,0,none⟩) fs.length cB) op cs ms ts fs S bT bF bS gA gB gC nA nF nS cA cB cC tz fz sz∧Rws sdR 64 w13 [(b10,.slice py Y2.length cy,Y2),(b8,.slice pe E.length ce,E)]∧sdR.Own 64 w13 0 (.slice pw E.length cw) E∧feR.Own 122 w13 b10 (.slice px X.length cx) X∧feR.Own 122 w13 0 (.slice pu X.length cu) X∧sdR.Own 64 w13 0 (.slice pv Y2.length cv) Y2):=⟨aa H12.out.1 g,H12.out.2.1.keep g,H12.out.2.2.1.keep g,ar H12.out.2.2.2.1 g,ar H12.out.2.2.2.2.1 g,ar H12.out.2.2.2.2.2.1 g,ar H12.out.2.2.2.2.2.2 g⟩
  have HB13:Hid (V.heap.size≤b8∧b8≤b10∧b10≤w13.heap.size):=⟨HBs.out.1,HBs.out.2.1,Nat.le_trans HBs.out.2.2 g.size⟩
  clear C13 g H12 HBs e1 e2 e3
  have C14:=jz _ _ X w13 (aB.Own.at H13.out.2.2.2.2.1) (aB.Own.at H13.out.2.2.2.2.2.1) HEL.out.2
  go_wp2_with fail
  refine C14.mono ?_
  rintro e14 w14 ⟨rfl,g⟩
  have H14:Hid (V.grownBy w14 none∧LaU w w3 w14 b0 b1 nO (.slice pc cs.length kc) (.slice pm ms.length km) (.slice pt ts.length ct) (.slice pf fs.length cf) (.slice ps mS cS) (.slice (some ⟨gA,0,none⟩) ts.length cA) (.slice (some ⟨gB,0,none⟩) fs.length cB) op cs ms ts fs S bT bF bS gA gB gC nA nF nS cA cB cC tz fz sz∧Rws sdR 64 w14 [(b10,.slice py Y2.length cy,Y2),(b8,.slice pe E.length ce,E)]∧sdR.Own 64 w14 0 (.slice pw E.length cw) E∧feR.Own 122 w14 b10 (.slice px X.length cx) X∧sdR.Own 64 w14 0 (.slice pv Y2.length cv) Y2):=⟨aa H13.out.1 g,H13.out.2.1.keep g,H13.out.2.2.1.keep g,ar H13.out.2.2.2.1 g,ar H13.out.2.2.2.2.1 g,ar H13.out.2.2.2.2.2.2 g⟩
  have HB14:Hid (V.heap.size≤b8∧b8≤b10∧b10≤w14.heap.size):=⟨HB13.out.1,HB13.out.2.1,Nat.le_trans HB13.out.2.2 g.size⟩
  clear C14 g H13 HB13
  have C15:=mo _ _ Y2 w14 (aB.Own.at (H14.out.2.2.1.all _ List.mem_cons_self)) (aB.Own.at H14.out.2.2.2.2.2) (vG H14.out.2.2.2.2.2)
  go_wp2_with fail
  refine C15.mono ?_
  rintro e15 w15 ⟨rfl,g⟩
  have H15:Hid (V.grownBy w15 none∧LaU w w3 w15 b0 b1 nO (.slice pc cs.length kc) (.slice pm ms.length km) (.slice pt ts.length ct) (.slice pf fs.length cf) (.slice ps mS cS) (.slice (some ⟨gA,0,none⟩) ts.length cA) (.slice (some ⟨gB,0,none⟩) fs.length cB) op cs ms ts fs S bT bF bS gA gB gC nA nF nS cA cB cC tz fz sz∧Rws sdR 64 w15 [(b10,.slice py Y2.length cy,Y2),(b8,.slice pe E.length ce,E)]∧sdR.Own 64 w15 0 (.slice pw E.length cw) E∧feR.Own 122 w15 b10 (.slice px X.length cx) X):=⟨aa H14.out.1 g,H14.out.2.1.keep g,H14.out.2.2.1.keep g,ar H14.out.2.2.2.1 g,ar H14.out.2.2.2.2.1 g⟩
  have HB15:Hid (V.heap.size≤b8∧b8≤b10∧b10≤w15.heap.size):=⟨HB14.out.1,HB14.out.2.1,Nat.le_trans HB14.out.2.2 g.size⟩
  clear C15 g H14 HB14
  obtain⟨BV,hBV⟩:∃ b,b=V.heap.size:=⟨_,rfl⟩
  have HBV:Hid (BV=V.heap.size):=hBV
  clear hBV
  obtain⟨U1,hU1⟩:∃ U,U=(w15.alloc (.cells #[] 143)).alloc (.cells #[.slice px X.length cx] 27):=⟨_,rfl⟩
  have G1:Hid (w15.grownBy U1 none):=by rw[hU1];exact am (World.grownBy_alloc _ _ none) _
  have HI1:Hid (Bx kU 3 143 U1 BV (.slice (some ⟨w15.heap.size,0,none⟩) 0 0) []):=⟨Rws.nil _ _ _,aT (vk (cs:=#[]) [] (by rw[hU1];exact jj _ _ _ _ _) rfl (Nat.zero_le _)) (by rw[HBV.out];exact H15.out.1.size),fun a ha=>by cases ha⟩
  have HF1:Hid (Bx feR 122 27 U1 BV (.slice (some ⟨w15.heap.size+1,0,none⟩) 1 1) [(b10,(px,X.length,cx),X)]):=⟨⟨fun a ha=>by rw[List.mem_singleton.1 ha];exact ar H15.out.2.2.2.2 G1.out,List.pairwise_singleton _ _⟩,aT (vk (cs:=#[.slice px X.length cx]) [(px,X.length,cx)] (by rw[hU1];exact aL _ _ _ _) rfl (by unfold maxLen;simp)) (by rw[HBV.out];exact Nat.le_succ_of_le H15.out.1.size),fun a ha=>by rw[List.mem_singleton.1 ha,HBV.out];exact Nat.le_trans HB15.out.1 HB15.out.2.1⟩
  have HV1:Hid (V.grownBy U1 none∧Rws sdR 64 U1 [(b10,.slice py Y2.length cy,Y2),(b8,.slice pe E.length ce,E)]∧sdR.Own 64 U1 0 (.slice pw E.length cw) E):=⟨aa H15.out.1 G1.out,H15.out.2.2.1.keep G1.out,ar H15.out.2.2.2.1 G1.out⟩
  have HBb:Hid (BV≤b8∧b8≤b10):=⟨by rw[HBV.out];exact HB15.out.1,HB15.out.2.1⟩
  clear H15 HB15 G1
  go_upto_region 17 with fail
  rw[←hU1]
  obtain⟨n15,hn15⟩:∃ n,n=w15.heap.size:=⟨_,rfl⟩
  rw[←hn15] at HI1 HF1 ⊢
  clear hU1 hn15
  have C16:=n8 (.slice ps mS cS) S U1 (by have z:=HU.out.sd.keep HV1.out.1;exact z) (by have:=HB.out.2.2;omega)
  obtain⟨iD,hiD,hD0,hD1,hD2⟩:=info_parts Tryz.linfoD
  obtain⟨iI,hiI,hI0,hI1,hI2⟩:=info_parts Tryz.infoI
  obtain⟨iL,hiL,hL0,hL1,hL2⟩:=info_parts Tryz.infoLF
  have HSz:Hid (S.length+E.length≤maxLen∧(S.length+E.length)*56≤140737488355328):=by have:=HB.out.2.2;have:=HEL.out.1;show _∧_;unfold maxLen;omega
  obtain⟨FR,hFR⟩:∃ l,l=S++E:=⟨_,rfl⟩
  have HFR:Hid (FR=S++E∧FR.length=S.length+E.length∧FR.length≤134):=⟨hFR,by rw[hFR,List.length_append],by rw[hFR,List.length_append];have:=HB.out.2.2;have:=HEL.out.1;omega⟩
  clear hFR
  go_wp2_with (first
   | (go_at_call 19;refine C16.mono ?_;rintro e16 w16 ⟨v16,rfl,o16,g16⟩;have HO16:Hid (sdR.Own 64 w16 U1.heap.size v16 S∧U1.grownBy w16 none):=⟨o16,g16⟩;clear C16 o16 g16)
   | (at_builtin;refine aX (by rfl) (.tmp 178) (.tmp 179) 30 rfl U1.heap.size 64 iD _ 10 56 Tryz.underlying30 hiD hD0 hD1 hD2 rfl (by decide) v16 S.length (sdR.cs S) rfl HO16.out.1 _ E.length (sdR.cs E) rfl (aB.At.src (aB.Own.at (ar HV1.out.2.2 HO16.out.2))) (sdR.ones E) HSz.out.1 HSz.out.2 HO16.out.2.size ?_;intro v17 w17 o17 g17 _;have HO17:Hid (sdR.Own 64 w17 U1.heap.size v17 (S++E)∧w16.grownBy w17 v16.ownBlock):=⟨aB.join o17 rfl rfl,g17⟩;clear o17 g17))
  have G17:Hid (U1.grownBy w17 none):=az HO16.out.2 HO17.out.2 (fun y e=>(World.ownsRow.lt HO16.out.1 y e).1)
  have HR17:Hid (sdR.Own 64 w17 BV v17 FR):=by show aB.Own _ _ _ _ _ _;rw[HFR.out.1,HBV.out];exact aT HO17.out.1 HV1.out.1.size
  obtain⟨pr,cr,rfl⟩:=aB.Own.form HR17.out
  have HI2:Hid (Bx kU 3 143 w17 BV (.slice (some ⟨n15,0,none⟩) 0 0) []):=HI1.out.keep G17.out
  have HF2:Hid (Bx feR 122 27 w17 BV (.slice (some ⟨n15+1,0,none⟩) 1 1) [(b10,(px,X.length,cx),X)]):=HF1.out.keep G17.out
  have HV2:Hid (V.grownBy w17 none∧Rws sdR 64 w17 [(b10,.slice py Y2.length cy,Y2),(b8,.slice pe E.length ce,E)]):=⟨aa HV1.out.1 G17.out,HV1.out.2.1.keep G17.out⟩
  clear HO16 HO17 G17 HI1 HF1 HV1
  have HAk:Hid (wa V nB (.slice pt ts.length ct) (.slice pf fs.length cf) (.slice (some ⟨gA,0,none⟩) ts.length cA) (.slice (some ⟨gB,0,none⟩) fs.length cB) r m cd ts fs):=⟨fun Y s g=>(ui _ _ _ r m cd ts fs s Y (HIn.out Y g)).mono fun e w' z=>z.ab,fun Y s g=>HRb.out Y s (HKp.out Y g),fun Y s g=>(tR _ _ _ r m cd ts fs s Y (HIn.out Y g)).mono fun e w' z=>z.ap,fun Y s g=>HRp.out Y s (HKp.out Y g),fun Y s o g=>(qD _ _ _ r m cd ts fs s o Y (HIn.out Y g)).mono fun e w' z=>z.dp,fun Y s o g=>HRd.out Y s o (HKp.out Y g),fun s=>Nat.le_trans Be (Nat.le_trans HB.out.2.1 (by decide))⟩
  clear HRb HRp HRd HIn
  go_wp2_with fail
  go_loopw [30,31,33,34,35,36] (fun vi vg y _ _ _ wr=>∃ (c:Nat) (pi:Option Addr) (ci:Nat) (pg:Option Addr) (cg:Nat) (CI:List (Nat×Sxc×List Int)) (CF:List (Nat×Sxc×List Fe)),vi=.slice pi c ci∧vg=.slice pg (c+1) cg∧y=.int .i64 (c:Int)∧c≤FR.length∧c≤12∧Hid (CI.length=c∧CF.length=c+1)∧Hid (Bx kU 3 143 wr BV (.slice pi c ci) CI∧Bx feR 122 27 wr BV (.slice pg (c+1) cg) CF∧sdR.Own 64 wr BV (.slice pr FR.length cr) FR∧Rws sdR 64 wr [(b10,.slice py Y2.length cy,Y2),(b8,.slice pe E.length ce,E)]∧V.grownBy wr none)) (fun _ _ y _ _ _ _=>FR.length - (intOf y).toNat)
  case atStart=>exact⟨0,_,_,_,_,[],[(b10,(px,X.length,cx),X)],rfl,rfl,rfl,Nat.zero_le _,Nat.zero_le _,⟨rfl,rfl⟩,HI2.out,HF2.out,HR17.out,HV2.out.2,HV2.out.1⟩
  case round =>
   obtain⟨c,pi,ci,pg,cg,CI,CF,rfl,rfl,rfl,hc,hc12,HLn,HX⟩:=hrel
   obtain⟨U,hU⟩:∃ U,U=wr:=⟨_,rfl⟩
   subst hU
   clear HI2 HF2 HR17 HV2
   by_cases hin:c<FR.length∧c<12
   ·obtain⟨h1,h2⟩:=hin
    have i1:(c:Int)<(FR.length:Int):=Int.ofNat_lt.2 h1
    have i2:(c:Int)<12:=by omega
    have hwk:=aW (k:=c) (by omega)
    have Hc:Hid (c<FR.length∧c<12):=⟨h1,h2⟩
    have HM:Hid (FR.length - (intOf (.int .i64 ((c:Int)+1))).toNat<FR.length - (intOf (.int .i64 (c:Int))).toNat):=bQ h1
    obtain⟨s,hs⟩:∃ s,s=FR[c]:=⟨_,rfl⟩
    obtain⟨d,hd⟩:∃ d,d=(c+1) % FR.length:=⟨_,rfl⟩
    have hdl:d<FR.length:=by rw[hd];exact Nat.mod_lt _ (by omega)
    obtain⟨x,hx⟩:∃ x,x=FR[d]:=⟨_,rfl⟩
    have hrem:((c:Int)+1).tmod (FR.length:Int)=(d:Int):=by rw[hd];exact_mod_cast rfl
    have hnil:¬FR=[]:=fun e=>by rw[e] at h1;exact absurd h1 (Nat.not_lt_zero _)
    have hwr:IntKind.i64.wrap ((c:Int)+1)=(c:Int)+1:=by rw[IntWalk.i64_in _ (by omega)]
    have id1:(d:Int)<(FR.length:Int):=Int.ofNat_lt.2 hdl
    obtain⟨gr,off,cr',e1,R1⟩:=dW (aB.Own.at HX.out.2.2.1) h1
    cases e1
    rw[←hs] at R1
    obtain⟨gr',off',cr'',e1,R2⟩:=dW (aB.Own.at HX.out.2.2.1) hdl
    cases e1
    rw[←hx] at R2
    obtain⟨x0,x1,x2,x3,x4,x5,x6,x7,x8,x9⟩:=bq R1
    obtain⟨y0,y1,y2,y3,y4,y5,y6,y7,y8,y9⟩:=bq R2
    have LUU:=HU.out.keep HX.out.2.2.2.2
    obtain⟨t0,t1⟩:=dm LUU.pre.tb
    obtain⟨u0,u1⟩:=dm LUU.ob
    have CA:=xD nB pt pf (some ⟨gA,0,none⟩) (some ⟨gB,0,none⟩) ct cf cA cB ts.length ts.length fs.length fs.length r m cd ts fs s x U.drew (HAk.out.keep (aa HX.out.2.2.2.2 (ag _))) (fun s=>AL)
    unfold AkP sdv at CA
    clear hc hc12 h1 h2 hs hd hx hdl R1 R2 LUU
    go_upto_region 21 with fail
    refine wp_region_held_drew (S:=fun w'=>U.grownBy w' none) (by kernel_rfl) (ag _) (fun hHeld=>?_)
    refine QZ 0 rfl ?_
    go_frame
    refine QZ 1 rfl ?_
    go_frame
    refine QT 2 rfl (by intro w0 hSw;have t0:=hSw.cell t0 (by simp);have t1:=hSw.cell t1 (by simp);go_simp;try with_reducible rfl) ?_
    go_frame
    refine QT 3 rfl (by intro w0 hSw;have u0:=hSw.cell u0 (by simp);have u1:=hSw.cell u1 (by simp);go_simp;try with_reducible rfl) ?_
    go_frame
    refine QZ 4 rfl ?_
    go_frame
    refine QZ 5 rfl ?_
    go_frame
    refine QZ 6 rfl ?_
    go_frame
    refine QT 7 rfl (by intro w0 hSw;have x0:=hSw.cell x0 (by simp);have x1:=hSw.cell x1 (by simp);have x2:=hSw.cell x2 (by simp);have x3:=hSw.cell x3 (by simp);have x4:=hSw.cell x4 (by simp);have x5:=hSw.cell x5 (by simp);have x6:=hSw.cell x6 (by simp);have x7:=hSw.cell x7 (by simp);have x8:=hSw.cell x8 (by simp);have x9:=hSw.cell x9 (by simp);go_simp;try with_reducible rfl) ?_
    go_frame
    refine QZ 8 rfl ?_
    go_frame
    refine QZ 9 rfl ?_
    go_frame
    refine QZ 10 rfl ?_
    go_frame
    refine QZ 11 rfl ?_
    go_frame
    refine QZ 12 rfl ?_
    go_frame
    refine QZ 13 rfl ?_
    go_frame
    refine QZ 14 rfl ?_
    go_frame
    refine QT 15 rfl (by intro w0 hSw;have y0:=hSw.cell y0 (by simp);have y1:=hSw.cell y1 (by simp);have y2:=hSw.cell y2 (by simp);have y3:=hSw.cell y3 (by simp);have y4:=hSw.cell y4 (by simp);have y5:=hSw.cell y5 (by simp);have y6:=hSw.cell y6 (by simp);have y7:=hSw.cell y7 (by simp);have y8:=hSw.cell y8 (by simp);have y9:=hSw.cell y9 (by simp);go_simp;try with_reducible rfl) ?_
    go_frame
    clear t0 t1 u0 u1 x0 x1 x2 x3 x4 x5 x6 x7 x8 x9 y0 y1 y2 y3 y4 y5 y6 y7 y8 y9
    refine QR 16 rfl (fun K hK=>?_)
    go_simp
    go_at_call 20
    refine(CA).mono ?_
    rintro e20 w20 ⟨g1,g2,p20,c20,p21,c21,I,P,rfl,g20,h20,h21,oI,oP,l1,l2⟩
    have H20:Hid (U.grownBy w20 none∧w20.heap[g1]?=some (.cells #[.slice p20 I.length c20] 143 (0,0))∧w20.heap[g2]?=some (.cells #[.slice p21 P.length c21] 27 (0,0))∧kU.Own 3 w20 U.heap.size (sxv (p20,I.length,c20)) I∧feR.Own 122 w20 U.heap.size (sxv (p21,P.length,c21)) P):=⟨aa (ag _) g20,h20,h21,yk.2 oI,oP⟩
    clear CA g20 h20 h21 oI oP l1 l2
    refine hK.out _ _ (H20.out.1) (fun hHeld2=>?_)
    clear hK K
    (try go_frame)
    refine QZ 17 rfl ?_
    go_frame
    refine QZ 18 rfl ?_
    go_frame
    refine QZ 19 rfl ?_
    go_frame
    refine QZ 20 rfl ?_
    go_frame
    refine QZ 21 rfl ?_
    go_frame
    refine QZ 22 rfl ?_
    go_frame
    refine QZ 23 rfl ?_
    go_frame
    refine QD ?_
    clear hHeld hHeld2
    have HUs:Hid (BV≤U.heap.size∧BV≤w20.heap.size):=⟨by rw[HBV.out];exact HX.out.2.2.2.2.size,by rw[HBV.out];exact Nat.le_trans HX.out.2.2.2.2.size H20.out.1.size⟩
    have HIo:Hid (w20.ownsRow BV 143 1 (.slice pi c ci) c (slR.cs (CI.map fun a=>a.2.1).reverse)):=by have z:=ar HX.out.1.row H20.out.1;rw[HLn.out.1] at z;exact z
    have HSm:Hid (c+1≤maxLen∧(c+1)*24≤140737488355328∧c+1+1≤maxLen∧(c+1+1)*24≤140737488355328):=by have:=Hc.out.2;show _∧_;unfold maxLen;omega
    obtain⟨y1,hy1⟩:∃ y,y=Value.slice (some ⟨g1,0,none⟩) 1 1:=⟨_,rfl⟩
    obtain⟨y2,hy2⟩:∃ y,y=Value.slice (some ⟨g2,0,none⟩) 1 1:=⟨_,rfl⟩
    have HY:Hid (y1=.slice (some ⟨g1,0,none⟩) 1 1∧y2=.slice (some ⟨g2,0,none⟩) 1 1):=⟨hy1,hy2⟩
    rw[←hy1,←hy2]
    clear hy1 hy2
    have HS20:Hid (Src w20 y1 1 1 [sxv (p20,I.length,c20)]∧∀ u∈[sxv (p20,I.length,c20)],u.oneCell'=true):=⟨by rw[HY.out.1];exact ij (cs:=#[.slice p20 I.length c20]) H20.out.2.1 rfl 1,slR.h1 (p20,I.length,c20)⟩
    go_upto_region 25 with (at_builtin;refine aX (by rfl) (.tmp 214) (.tmp 215) 51 rfl BV 143 iI _ 1 24 Tryz.underlying51 hiI hI0 hI1 hI2 rfl (by decide) (.slice pi c ci) c (slR.cs (CI.map fun a=>a.2.1).reverse) rfl HIo.out y1 1 [sxv (p20,I.length,c20)] rfl HS20.out.1 HS20.out.2 HSm.out.1 HSm.out.2.1 HUs.out.2 ?_;intro v21 w21 o21 g21 _;have H21:Hid (w21.ownsRow BV 143 1 v21 (c+1) (slR.cs (CI.map fun a=>a.2.1).reverse++[sxv (p20,I.length,c20)])∧w20.grownBy w21 (Value.slice pi c ci).ownBlock):=⟨o21,g21⟩;clear o21 g21)
    obtain⟨pi2,ci2,ev,-⟩:=bz H21.out.1
    subst ev
    have HIn2:Hid (Bx kU 3 143 w21 BV (.slice pi2 (c+1) ci2) ((U.heap.size,(p20,I.length,c20),I) :: CI)):=HX.out.1.more H20.out.1 H20.out.2.2.2.1 HUs.out.1 (by decide) H21.out.2 (by rw[HLn.out.1];exact H21.out.1)
    have HFo:Hid (w21.ownsRow BV 27 1 (.slice pg (c+1) cg) (c+1) (slR.cs (CF.map fun a=>a.2.1).reverse)):=by have z:=ar HX.out.2.1.row H20.out.1;rw[HLn.out.2] at z;exact bw z HIo.out (by decide) H21.out.2
    have HG2:Hid (w21.heap[g2]?=some (.cells #[.slice p21 P.length c21] 27 (0,0))∧BV≤w21.heap.size):=⟨ai H21.out.2 H20.out.2.2.1 (fk HIo.out H20.out.2.2.1 (by decide)),Nat.le_trans HUs.out.2 H21.out.2.size⟩
    have HS21:Hid (Src w21 y2 1 1 [sxv (p21,P.length,c21)]∧∀ u∈[sxv (p21,P.length,c21)],u.oneCell'=true):=⟨by rw[HY.out.2];exact ij (cs:=#[.slice p21 P.length c21]) HG2.out.1 rfl 1,slR.h1 (p21,P.length,c21)⟩
    go_wp2_with (at_builtin;refine aX (by rfl) (.tmp 217) (.tmp 218) 52 rfl BV 27 iL _ 1 24 Tryz.underlying52 hiL hL0 hL1 hL2 rfl (by decide) (.slice pg (c+1) cg) (c+1) (slR.cs (CF.map fun a=>a.2.1).reverse) rfl HFo.out y2 1 [sxv (p21,P.length,c21)] rfl HS21.out.1 HS21.out.2 HSm.out.2.2.1 HSm.out.2.2.2 HG2.out.2 ?_;intro v22 w22 o22 g22 _;have H22:Hid (w22.ownsRow BV 27 1 v22 (c+1+1) (slR.cs (CF.map fun a=>a.2.1).reverse++[sxv (p21,P.length,c21)])∧w21.grownBy w22 (Value.slice pg (c+1) cg).ownBlock):=⟨o22,g22⟩;clear o22 g22)
    obtain⟨pg2,cg2,ev,-⟩:=bz H22.out.1
    subst ev
    have HE:Hid (Bx kU 3 143 w22 BV (.slice pi2 (c+1) ci2) ((U.heap.size,(p20,I.length,c20),I) :: CI)∧Bx feR 122 27 w22 BV (.slice pg2 (c+1+1) cg2) ((U.heap.size,(p21,P.length,c21),P) :: CF)∧sdR.Own 64 w22 BV (.slice (some ⟨gr,off,none⟩) FR.length cr) FR∧Rws sdR 64 w22 [(b10,.slice py Y2.length cy,Y2),(b8,.slice pe E.length ce,E)]∧V.grownBy w22 none):=⟨HIn2.out.past HFo.out H22.out.2 (by decide) (by decide),HX.out.2.1.more2 H20.out.1 H20.out.2.2.2.2 HUs.out.1 (by decide) HIo.out H21.out.2 (by decide) (by decide) H22.out.2 (by rw[HLn.out.2];exact H22.out.1),bw (bw (ar HX.out.2.2.1 H20.out.1) HIo.out (by decide) H21.out.2) HFo.out (by decide) H22.out.2,((HX.out.2.2.2.1.keep H20.out.1).other HIo.out (by decide) H21.out.2).other HFo.out (by decide) H22.out.2,az (az (aa HX.out.2.2.2.2 H20.out.1) H21.out.2 (fun y e=>by rw[←HBV.out];exact(World.ownsRow.lt HIo.out y e).1)) H22.out.2 (fun y e=>by rw[←HBV.out];exact(World.ownsRow.lt HFo.out y e).1)⟩
    have HL2:Hid (((U.heap.size,(p20,I.length,c20),I) :: CI).length=c+1∧((U.heap.size,(p21,P.length,c21),P) :: CF).length=c+1+1):=⟨by rw[List.length_cons,HLn.out.1],by rw[List.length_cons,HLn.out.2]⟩
    clear HIn2 HFo HG2 H22 H21 H20 HIo HX HUs HSm HLn i1 i2 hrem hnil hwr id1
    go_wp2_with fail
    go_roundw
    case rel=>exact⟨c+1,_,_,_,_,_,_,rfl,rfl,by first | rfl | (rw[hwk];rfl) | go_num,Hc.out.1,Hc.out.2,HL2,HE.out⟩
    case measure=>first | exact HM.out | (rw[hwk];exact HM.out)
   ·have hsp:((c:Int)<(FR.length:Int)∧¬(c:Int)<12)∨¬(c:Int)<(FR.length:Int):=by omega
    clear hin
    rcases hsp with ⟨i1,i2⟩ | i1
    all_goals
     have HZ:Hid (V.grownBy U none∧Rws sdR 64 U [(b10,.slice py Y2.length cy,Y2),(b8,.slice pe E.length ce,E)]∧Bx kU 3 143 U BV (.slice pi c ci) CI∧Bx feR 122 27 U BV (.slice pg (c+1) cg) CF∧c≤12):=⟨HX.out.2.2.2.2,HX.out.2.2.2.1,HX.out.1,HX.out.2.1,hc12⟩
     have HUU:Hid (LaU w w3 U b0 b1 nO (.slice pc cs.length kc) (.slice pm ms.length km) (.slice pt ts.length ct) (.slice pf fs.length cf) (.slice ps mS cS) (.slice (some ⟨gA,0,none⟩) ts.length cA) (.slice (some ⟨gB,0,none⟩) fs.length cB) op cs ms ts fs S bT bF bS gA gB gC nA nF nS cA cB cC tz fz sz):=HU.out.keep HX.out.2.2.2.2
     clear HX hc hc12 HAk
     obtain⟨t0,t1⟩:=dm HUU.out.pre.tb
     have C23:=tf (.slice (some ⟨gA,0,none⟩) nA cA) _ ts U (by have z:=aB.Own.at HUU.out.ot;rwa [HnA.out.1] at z) HUU.out.pre.th (by have:=HB.out;omega)
     go_wp2_with fail
     refine C23.mono ?_
     rintro e23 w23 ⟨rfl,g23⟩
     have H23:Hid (U.grownBy w23 none∧LaU w w3 w23 b0 b1 nO (.slice pc cs.length kc) (.slice pm ms.length km) (.slice pt ts.length ct) (.slice pf fs.length cf) (.slice ps mS cS) (.slice (some ⟨gA,0,none⟩) ts.length cA) (.slice (some ⟨gB,0,none⟩) fs.length cB) op cs ms ts fs S bT bF bS gA gB gC nA nF nS cA cB cC tz fz sz):=⟨g23,HUU.out.keep g23⟩
     clear C23 g23 HUU t0 t1
     obtain⟨t0,t1⟩:=dm H23.out.2.pre.tb
     have C24:=ua (.slice (some ⟨gB,0,none⟩) nF cB) _ fs w23 (by have z:=aB.Own.at H23.out.2.of;rwa [HnF.out.1] at z) H23.out.2.pre.fe (by have:=HB.out;omega)
     go_wp2_with fail
     refine C24.mono ?_
     rintro e24 w24 ⟨rfl,g24⟩
     have H24:Hid (U.grownBy w24 none∧LaU w w3 w24 b0 b1 nO (.slice pc cs.length kc) (.slice pm ms.length km) (.slice pt ts.length ct) (.slice pf fs.length cf) (.slice ps mS cS) (.slice (some ⟨gA,0,none⟩) ts.length cA) (.slice (some ⟨gB,0,none⟩) fs.length cB) op cs ms ts fs S bT bF bS gA gB gC nA nF nS cA cB cC tz fz sz):=⟨aa H23.out.1 g24,H23.out.2.keep g24⟩
     clear C24 g24 H23 t0 t1
     have C25:=tN (.slice (some ⟨gC,0,none⟩) nS cC) (.slice ps mS cS) S w24 (by have z:=aB.Own.at H24.out.2.os;rwa [HnS.out.1] at z) (by have z:=H24.out.2.sd;exact z) (by have:=HB.out;omega)
     go_wp2_with fail
     refine C25.mono ?_
     rintro e25 w25 ⟨rfl,g25⟩
     have H25:Hid (V.grownBy w25 none∧Rws sdR 64 w25 [(b10,.slice py Y2.length cy,Y2),(b8,.slice pe E.length ce,E)]∧Bx kU 3 143 w25 BV (.slice pi c ci) CI∧Bx feR 122 27 w25 BV (.slice pg (c+1) cg) CF∧w.grownBy w25 none):=by
      have g:=aa H24.out.1 g25
      refine⟨aa HZ.out.1 g,HZ.out.2.1.keep g,HZ.out.2.2.1.keep g,HZ.out.2.2.2.1.keep g,aa H24.out.2.pre.gr g25⟩
     have HwV:Hid (w.heap.size≤BV):=by show _≤_;rw[HBV.out];exact HU.out.pre.gr.size
     clear C25 g25 H24
     have C26:=uw (w0:=w) (U:=w25) (p:=pi) (c:=ci) (C:=CI) H25.out.2.2.2.2 (by rw[HLn.out.1];exact H25.out.2.2.1) HwV.out (by rw[HLn.out.1];have:=HZ.out.2.2.2.2;omega)
     rw[HLn.out.1] at C26
     go_wp2_with fail
     refine C26.mono ?_
     rintro e26 w26 ⟨rfl,g26,k26⟩
     have H26:Hid (w.grownBy w26 none∧Rws sdR 64 w26 [(b10,.slice py Y2.length cy,Y2),(b8,.slice pe E.length ce,E)]∧Bx feR 122 27 w26 BV (.slice pg (c+1) cg) CF):=⟨g26,H25.out.2.1.via k26 (by decide),H25.out.2.2.2.1.via k26 (by decide) (by decide)⟩
     clear C26 g26 k26 H25
     have C27:=uH (w0:=w) (U:=w26) (p:=pg) (c:=cg) (C:=CF) H26.out.1 (by rw[HLn.out.2];exact H26.out.2.2) HwV.out (by rw[HLn.out.2];omega) (by rw[HLn.out.2];have:=HZ.out.2.2.2.2;omega)
     rw[HLn.out.2] at C27
     go_wp2_with fail
     refine C27.mono ?_
     rintro e27 w27 ⟨rfl,g27,k27⟩
     have H27:Hid (w.grownBy w27 none∧Rws sdR 64 w27 [(b10,.slice py Y2.length cy,Y2),(b8,.slice pe E.length ce,E)]):=⟨g27,H26.out.2.1.via k27 (by decide)⟩
     clear C27 g27 k27 H26
     obtain⟨Q,hQ⟩:∃ Q,Q=w27.alloc (.cells #[.slice pe E.length ce,.slice py Y2.length cy] 30):=⟨_,rfl⟩
     have GQ:w27.grownBy Q none:=by rw[hQ];exact World.grownBy_alloc _ _ none
     have HQb:Q.heap[w27.heap.size]?=some (.cells #[.slice pe E.length ce,.slice py Y2.length cy] 30 (0,0)):=by rw[hQ];exact ak _ _ _
     have C28:=tJ (n:=2) (w0:=w) (w:=Q) (g:=w27.heap.size) (c:=2) (aa H27.out.1 GQ) (H27.out.2.keep GQ) (fun a ha=>by
      have h1:=HwV.out
      have h2:=HBb.out
      simp only[List.mem_cons,List.not_mem_nil,or_false] at ha
      rcases ha with rfl | rfl <;> (show w.heap.size≤_;omega)) rfl (by decide) (by decide) (fun j a ha=>by
      rcases j with _ | _ | j
      ·cases ha;exact(ae HQb 0).trans rfl
      ·cases ha;exact(ae HQb 1).trans rfl
      ·simp at ha)
     rw[hQ] at C28
     clear hQ GQ HQb
     go_wp2_with fail
     refine C28.mono ?_
     rintro e28 w28 ⟨rfl,g28,-⟩
     clear C28
     go_wp2_with fail
     go_ret
     exact⟨rfl,g28⟩
end Go.Proofs.YtjmepebbcnhalaaGreat
