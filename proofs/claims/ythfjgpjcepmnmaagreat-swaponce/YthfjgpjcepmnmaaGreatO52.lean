import Derived.Test.YthfjgpjcepmnmaaGreatO51
import Derived.Test.YthfjgpjcepmnmaaGreatO31
import Derived.BigQuiet
import Derived.Test.YthfjgpjcepmnmaaGreatO33
import Derived.Test.YthfjgpjcepmnmaaGreatO27
import Derived.Test.YthfjgpjcepmnmaaGreatO26
namespace Go.Proofs.YthfjgpjcepmnmaaGreat
set_option maxRecDepth 100000
set_option maxHeartbeats 4000000
open Go.RowKit Go.Shelf
def fA:Pt:=⟨5,15,7,1,0,0,0,⟨#[]⟩⟩
def sxR:Hd:=crd ⟨#[114,97,109,112,97,114,116]⟩ 2 3 0
def kq:Pt:=⟨6,16,5,1,0,0,0,⟨#[]⟩⟩
def sxG:Hd:=crd ⟨#[103,111,108,101,109]⟩ 2 1 5
def nP:Pt:=⟨6,19,4,1,0,0,0,⟨#[]⟩⟩
def sxK:Hd:=crd ⟨#[114,111,99,107]⟩ 2 1 1
def sxH:Hd:=crd ⟨#[104,111,108,108,111,119]⟩ 5 3 0
def jQ:Pt:=⟨6,17,2,0,0,0,0,⟨#[]⟩⟩
def jO:Pt:=⟨6,18,1,0,0,0,0,⟨#[]⟩⟩
def eR (v:Value):Ent:=⟨sxR,v,[fA,fA,kq]⟩
def eG (v:Value):Ent:=⟨sxG,v,[fA,nP]⟩
def eK (v:Value):Ent:=⟨sxK,v,[]⟩
def eH (v:Value):Ent:=⟨sxH,v,[jQ,jO]⟩
theorem EK:caE bC [] (sxR.with [fA,fA,kq])=0:=by
 show (if bC.shut=true then (7:Int) else if ¬dR (sxR.with [fA,fA,kq])=0 then dR (sxR.with [fA,fA,kq]) else if 0≤pos [] sxR.nm then 5 else if (0:Nat)=64 then 14 else 0)=0
 decide +kernel
theorem EC (vR:Value):caE bC [eR vR] (sxG.with [fA,nP])=0:=by
 show (if bC.shut=true then (7:Int) else if ¬dR (sxG.with [fA,nP])=0 then dR (sxG.with [fA,nP]) else if 0≤pos [sxR.nm] sxG.nm then 5 else if (1:Nat)=64 then 14 else 0)=0
 decide +kernel
theorem Ee (vG vR:Value):ins [eR vR] (eG vG)=[eG vG,eR vR]:=by
 rw[eu,if_neg (by show ¬ord sxR sxG<0;decide +kernel)]
theorem Fo (vG vR:Value):caE bC [eG vG,eR vR] (sxK.with [])=0:=by
 show (if bC.shut=true then (7:Int) else if ¬dR (sxK.with [])=0 then dR (sxK.with []) else if 0≤pos [sxG.nm,sxR.nm] sxK.nm then 5 else if (2:Nat)=64 then 14 else 0)=0
 decide +kernel
theorem Eg (vG vR vK:Value):ins [eG vG,eR vR] (eK vK)=[eG vG,eR vR,eK vK]:=by
 rw[eu,if_pos (by show ord sxG sxK<0;decide +kernel),eu,if_pos (by show ord sxR sxK<0;decide +kernel)]
 rfl
theorem Ej (vG vR vK:Value):caE bC [eG vG,eR vR,eK vK] (sxH.with [jQ,jO])=0:=by
 show (if bC.shut=true then (7:Int) else if ¬dR (sxH.with [jQ,jO])=0 then dR (sxH.with [jQ,jO]) else if 0≤pos [sxG.nm,sxR.nm,sxK.nm] sxH.nm then 5 else if (3:Nat)=64 then 14 else 0)=0
 decide +kernel
theorem F9 (vG vR vK vH:Value):ins [eG vG,eR vR,eK vK] (eH vH)=[eG vG,eR vR,eK vK,eH vH]:=by
 rw[eu,if_pos (by show ord sxG sxH<0;decide +kernel),eu,if_pos (by show ord sxR sxH<0;decide +kernel),eu,if_pos (by show ord sxK sxH<0;decide +kernel)]
 rfl
def nL (vG vR vK vH:Value):List Ent:=[eG vG,eR vR,eK vK,eH vH]
theorem vq (vG vR vK vH:Value):fq bC (nL vG vR vK vH)=0:=by
 unfold fq
 rw[if_neg (by decide)]
 simp[nL,eG,eR,eK,eH,gn,dn,eD,fA,kq,nP,jQ,jO]
theorem Dt (vG vR vK vH:Value):dv bC (nL vG vR vK vH)=exP:=if_pos (vq vG vR vK vH)
def sxT:List Th:=[⟨2,0,4,1,0,0,0,0,0,0,false⟩,⟨1,0,4,2,0,0,0,1,0,0,false⟩,⟨4,1,4,3,0,0,0,0,0,0,false⟩,⟨3,0,4,4,0,0,0,0,0,0,false⟩]
def sxF:List Fe:=[⟨0,2,0,0,0⟩,⟨0,2,0,0,5⟩,⟨1,5,0,0,0⟩,⟨0,2,0,0,1⟩]
structure SxR (w wr:World) (b S g f:Nat) (vG vR vK vH:Value):Prop where
 bk:cR (fun k=>qI b k∧k<S) wr b (nL vG vR vK vH) exP
 th:thR.Own 100 wr S (.slice (some ⟨g,0,none⟩) 4 4) sxT
 fe:feR.Own 65 wr S (.slice (some ⟨f,0,none⟩) 4 4) sxF
 gr:w.grownBy wr none
 lie:w.heap.size≤b∧b<S
theorem SxR.keep {w wr w':World} {b S g f:Nat} {vG vR vK vH:Value} (h:SxR w wr b S g f vG vR vK vH) (k:wr.grownBy w' none):SxR w w' b S g f vG vR vK vH:=⟨h.bk.keep k,aA h.th k,aA h.fe k,aa h.gr k,h.lie⟩
theorem qe {W:World} {n:Nat} {ps:List Pt} {m:Nat} (hm:m=ps.length) (h:W.heap[n]?=some (.cells (dt ps).toArray 38 (0,0))):bI W (.slice (some ⟨n,0,none⟩) m m) ps:=by
 subst hm
 refine Or.inr ⟨⟨n,0,none⟩,ps.length,rfl,Nat.le_refl _,fun j u hu=>?_⟩
 have hb:=ac h j
 rw[ib,Nat.zero_add,hb]
 simpa using hu
structure SxS (w wr:World) (b n4:Nat) (es:List Ent) (p:Pl):Prop where
 bk:cR (qI b) wr b es p
 al:wr.heap[n4]?=some (.cells (dt [fA]).toArray 38 (0,0))
 gr:w.grownBy wr none
 lie:w.heap.size≤b∧b<n4
theorem SxS.keep {w wr w':World} {b n4:Nat} {es:List Ent} {p:Pl} (h:SxS w wr b n4 es p) (g:wr.grownBy w' none):SxS w w' b n4 es p:=⟨h.bk.keep g,ae g h.al (by simp),aa h.gr g,h.lie⟩
theorem SxS.turn {w wr w':World} {b n4:Nat} {es es':List Ent} {p p':Pl} (h:SxS w wr b n4 es p) (g:wr.grownBy w' (some b)) (B:cR (qI b) w' b es' p'):SxS w w' b n4 es' p':=by
 obtain⟨l0,l1⟩:=h.lie
 exact⟨B,ae g h.al (fun q=>by cases q;omega),am h.gr g (fun x e=>by cases e;exact l0),h.lie⟩
theorem SxS.card {w wr:World} {b n4:Nat} {es:List Ent} {h:Hd} {v:Value} {ps:List Pt} (H:SxS w wr b n4 es bC) (hp:bI wr v ps) (hm:bm ps.length) (hc:caE bC es (h.with ps)=0):Calls Tryz.prog 59 #[.pointer (some ⟨b,0,none⟩),cv h v] wr fun e w'=>∃ u,e=.returned (.int .i64 0)∧SxS w w' b n4 (ins es ⟨h,u,ps⟩) bC:=by
 have q:=DX (qI b) b es bC h v ps wr H.bk (Nat.lt_irrefl _) (fun k hk=>by show b<k;have:=H.bk.lt;omega) hp hm
 rw[hc] at q
 exact q.mono fun e w' ⟨u,e1,B,g⟩=>⟨u,e1,H.turn g B⟩
theorem yV (S:Nat) (g:Nat) (W:World) (hS:S≤g) (h:W.heap[g]?=some (.cells (thR.cs sxT).toArray 100 (0,0))):thR.Own 100 W S (.slice (some ⟨g,0,none⟩) 4 4) sxT:=⟨rfl,Or.inr ⟨g,4,_,rfl,hS,h,Nat.le_refl _,(by unfold maxLen;decide),rfl,rfl⟩⟩
theorem BC (S:Nat) (g:Nat) (W:World) (hS:S≤g) (h:W.heap[g]?=some (.cells (feR.cs sxF).toArray 65 (0,0))):feR.Own 65 W S (.slice (some ⟨g,0,none⟩) 4 4) sxF:=⟨rfl,Or.inr ⟨g,4,_,rfl,hS,h,Nat.le_refl _,(by unfold maxLen;decide),rfl,rfl⟩⟩
theorem nD (w:World):Calls Tryz.prog 9 #[] w fun e w'=>∃ vG vR vK vH S g f,e=.returned (.tuple #[.pointer (some ⟨w.heap.size,0,none⟩),.slice (some ⟨g,0,none⟩) 4 4,.slice (some ⟨f,0,none⟩) 4 4])∧SxR w w' w.heap.size S g f vG vR vK vH:=by
 have HN:=Ft (qI w.heap.size) w
 obtain⟨b,hb⟩:∃ b,b=w.heap.size:=⟨_,rfl⟩
 have HBb:Hid (b=w.heap.size):=hb
 rw[←hb] at HN ⊢
 clear hb
 go_enter Tryz.func9,Tryz.ntmps9
 go_wp2_with fail
 refine HN.mono ?_
 rintro e w1 ⟨rfl,B1,g1,hz1⟩
 obtain⟨V1,hV1⟩:∃ V1,V1=w1.alloc (.cells #[.int .u8 5,.int .u8 15,.int .u8 7,.int .i64 1,.int .u8 0,.int .u8 0,.int .u8 0,.string ⟨#[]⟩] 38):=⟨_,rfl⟩
 have HS1:Hid (SxS w V1 b w1.heap.size [] bC):=⟨by rw[hV1];exact B1.keep (World.grownBy_alloc _ _ none),by rw[hV1];exact ai _ _ _,by rw[hV1];exact ak g1 _,by have:=HBb.out;omega,B1.lt⟩
 clear HN B1 g1 hz1
 go_upto_region 3 with fail
 rw[←hV1]
 clear hV1
 obtain⟨n4,hn4⟩:∃ n4,n4=w1.heap.size:=⟨_,rfl⟩
 rw[←hn4] at HS1 ⊢
 clear hn4
 have a0:V1.cell? ⟨n4,0,none⟩=some (.int .u8 5):=(ac HS1.out.al 0).trans rfl
 have a1:V1.cell? ⟨n4,1,none⟩=some (.int .u8 15):=(ac HS1.out.al 1).trans rfl
 have a2:V1.cell? ⟨n4,2,none⟩=some (.int .u8 7):=(ac HS1.out.al 2).trans rfl
 have a3:V1.cell? ⟨n4,3,none⟩=some (.int .i64 1):=(ac HS1.out.al 3).trans rfl
 have a4:V1.cell? ⟨n4,4,none⟩=some (.int .u8 0):=(ac HS1.out.al 4).trans rfl
 have a5:V1.cell? ⟨n4,5,none⟩=some (.int .u8 0):=(ac HS1.out.al 5).trans rfl
 have a6:V1.cell? ⟨n4,6,none⟩=some (.int .u8 0):=(ac HS1.out.al 6).trans rfl
 have a7:V1.cell? ⟨n4,7,none⟩=some (.string ⟨#[]⟩):=(ac HS1.out.al 7).trans rfl
 obtain⟨XR,hXR⟩:∃ X,X=V1.alloc (.cells #[.int .u8 5,.int .u8 15,.int .u8 7,.int .i64 1,.int .u8 0,.int .u8 0,.int .u8 0,.string ⟨#[]⟩,.int .u8 5,.int .u8 15,.int .u8 7,.int .i64 1,.int .u8 0,.int .u8 0,.int .u8 0,.string ⟨#[]⟩,.int .u8 6,.int .u8 16,.int .u8 5,.int .i64 1,.int .u8 0,.int .u8 0,.int .u8 0,.string ⟨#[]⟩] 38):=⟨_,rfl⟩
 have HXR:Hid (SxS w XR b n4 [] bC∧bI XR (.slice (some ⟨V1.heap.size,0,none⟩) 3 3) [fA,fA,kq]):=by rw[hXR];exact⟨HS1.out.keep (World.grownBy_alloc _ _ none),qe rfl (ai _ _ _)⟩
 have CR:Calls Tryz.prog 60 #[.string ⟨#[114,97,109,112,97,114,116]⟩,.int .u8 2,.int .u8 3,.int .i64 0,.slice (some ⟨V1.heap.size,0,none⟩) 3 3] XR fun e w'=>e=.returned (.agg #[.string ⟨#[114,97,109,112,97,114,116]⟩,.int .u8 2,.int .u8 3,.int .i64 0,.int .i64 0,.int .i64 0,.int .u16 0,.bool false,.slice (some ⟨V1.heap.size,0,none⟩) 3 3])∧XR.grownBy w' none:=j6 _ _ _ _ _ _ _ _
 clear HS1
 go_wp2_with fail
 rw[←hXR]
 clear hXR
 refine CR.mono ?_
 rintro e w2_R ⟨rfl,g2⟩
 clear CR
 have DR:Calls Tryz.prog 59 #[.pointer (some ⟨b,0,none⟩),.agg #[.string ⟨#[114,97,109,112,97,114,116]⟩,.int .u8 2,.int .u8 3,.int .i64 0,.int .i64 0,.int .i64 0,.int .u16 0,.bool false,.slice (some ⟨V1.heap.size,0,none⟩) 3 3]] w2_R fun e w'=>∃ u,e=.returned (.int .i64 0)∧SxS w w' b n4 (ins [] ⟨sxR,u,[fA,fA,kq]⟩) bC:=SxS.card (HXR.out.1.keep g2) (HXR.out.2.keep g2) (by unfold bm;simp) (EK)
 clear g2 HXR
 go_wp2_with fail
 refine DR.mono ?_
 rintro e w3_R ⟨uR,rfl,h3_R⟩
 have HSR:Hid (SxS w w3_R b n4 [eR uR] bC):=show SxS w w3_R b n4 (ins [] (eR uR)) bC from h3_R
 clear DR h3_R a0 a1 a2 a3 a4 a5 a6 a7
 have a0:w3_R.cell? ⟨n4,0,none⟩=some (.int .u8 5):=(ac HSR.out.al 0).trans rfl
 have a1:w3_R.cell? ⟨n4,1,none⟩=some (.int .u8 15):=(ac HSR.out.al 1).trans rfl
 have a2:w3_R.cell? ⟨n4,2,none⟩=some (.int .u8 7):=(ac HSR.out.al 2).trans rfl
 have a3:w3_R.cell? ⟨n4,3,none⟩=some (.int .i64 1):=(ac HSR.out.al 3).trans rfl
 have a4:w3_R.cell? ⟨n4,4,none⟩=some (.int .u8 0):=(ac HSR.out.al 4).trans rfl
 have a5:w3_R.cell? ⟨n4,5,none⟩=some (.int .u8 0):=(ac HSR.out.al 5).trans rfl
 have a6:w3_R.cell? ⟨n4,6,none⟩=some (.int .u8 0):=(ac HSR.out.al 6).trans rfl
 have a7:w3_R.cell? ⟨n4,7,none⟩=some (.string ⟨#[]⟩):=(ac HSR.out.al 7).trans rfl
 obtain⟨XG,hXG⟩:∃ X,X=w3_R.alloc (.cells #[.int .u8 5,.int .u8 15,.int .u8 7,.int .i64 1,.int .u8 0,.int .u8 0,.int .u8 0,.string ⟨#[]⟩,.int .u8 6,.int .u8 19,.int .u8 4,.int .i64 1,.int .u8 0,.int .u8 0,.int .u8 0,.string ⟨#[]⟩] 38):=⟨_,rfl⟩
 have HXG:Hid (SxS w XG b n4 [eR uR] bC∧bI XG (.slice (some ⟨w3_R.heap.size,0,none⟩) 2 2) [fA,nP]):=by rw[hXG];exact⟨HSR.out.keep (World.grownBy_alloc _ _ none),qe rfl (ai _ _ _)⟩
 have CG:Calls Tryz.prog 60 #[.string ⟨#[103,111,108,101,109]⟩,.int .u8 2,.int .u8 1,.int .i64 5,.slice (some ⟨w3_R.heap.size,0,none⟩) 2 2] XG fun e w'=>e=.returned (.agg #[.string ⟨#[103,111,108,101,109]⟩,.int .u8 2,.int .u8 1,.int .i64 0,.int .i64 0,.int .i64 5,.int .u16 0,.bool false,.slice (some ⟨w3_R.heap.size,0,none⟩) 2 2])∧XG.grownBy w' none:=j6 _ _ _ _ _ _ _ _
 clear HSR
 go_wp2_with fail
 rw[←hXG]
 clear hXG
 refine CG.mono ?_
 rintro e w2_G ⟨rfl,g2⟩
 clear CG
 have DG:Calls Tryz.prog 59 #[.pointer (some ⟨b,0,none⟩),.agg #[.string ⟨#[103,111,108,101,109]⟩,.int .u8 2,.int .u8 1,.int .i64 0,.int .i64 0,.int .i64 5,.int .u16 0,.bool false,.slice (some ⟨w3_R.heap.size,0,none⟩) 2 2]] w2_G fun e w'=>∃ u,e=.returned (.int .i64 0)∧SxS w w' b n4 (ins [eR uR] ⟨sxG,u,[fA,nP]⟩) bC:=SxS.card (HXG.out.1.keep g2) (HXG.out.2.keep g2) (by unfold bm;simp) (EC uR)
 clear g2 HXG
 go_wp2_with fail
 refine DG.mono ?_
 rintro e w3_G ⟨uG,rfl,h3_G⟩
 have HSG:Hid (SxS w w3_G b n4 [eG uG,eR uR] bC):=by have q:=h3_G;rwa [show ins [eR uR] ⟨sxG,uG,[fA,nP]⟩=[eG uG,eR uR] from Ee uG uR] at q
 clear DG h3_G a0 a1 a2 a3 a4 a5 a6 a7
 have HXK:Hid (SxS w w3_G b n4 [eG uG,eR uR] bC∧bI w3_G (.slice none 0 0) []):=⟨HSG.out,Or.inl ⟨rfl,rfl⟩⟩
 have CK:Calls Tryz.prog 60 #[.string ⟨#[114,111,99,107]⟩,.int .u8 2,.int .u8 1,.int .i64 1,.slice none 0 0] w3_G fun e w'=>e=.returned (.agg #[.string ⟨#[114,111,99,107]⟩,.int .u8 2,.int .u8 1,.int .i64 0,.int .i64 0,.int .i64 1,.int .u16 0,.bool false,.slice none 0 0])∧w3_G.grownBy w' none:=j6 _ _ _ _ _ _ _ _
 clear HSG
 go_wp2_with fail
 refine CK.mono ?_
 rintro e w2_K ⟨rfl,g2⟩
 clear CK
 have DK:Calls Tryz.prog 59 #[.pointer (some ⟨b,0,none⟩),.agg #[.string ⟨#[114,111,99,107]⟩,.int .u8 2,.int .u8 1,.int .i64 0,.int .i64 0,.int .i64 1,.int .u16 0,.bool false,.slice none 0 0]] w2_K fun e w'=>∃ u,e=.returned (.int .i64 0)∧SxS w w' b n4 (ins [eG uG,eR uR] ⟨sxK,u,[]⟩) bC:=SxS.card (HXK.out.1.keep g2) (HXK.out.2.keep g2) (by unfold bm;simp) (Fo uG uR)
 clear g2 HXK
 go_wp2_with fail
 refine DK.mono ?_
 rintro e w3_K ⟨uK,rfl,h3_K⟩
 have HSK:Hid (SxS w w3_K b n4 [eG uG,eR uR,eK uK] bC):=by have q:=h3_K;rwa [show ins [eG uG,eR uR] ⟨sxK,uK,[]⟩=[eG uG,eR uR,eK uK] from Eg uG uR uK] at q
 clear DK h3_K
 obtain⟨XH,hXH⟩:∃ X,X=w3_K.alloc (.cells #[.int .u8 6,.int .u8 17,.int .u8 2,.int .i64 0,.int .u8 0,.int .u8 0,.int .u8 0,.string ⟨#[]⟩,.int .u8 6,.int .u8 18,.int .u8 1,.int .i64 0,.int .u8 0,.int .u8 0,.int .u8 0,.string ⟨#[]⟩] 38):=⟨_,rfl⟩
 have HXH:Hid (SxS w XH b n4 [eG uG,eR uR,eK uK] bC∧bI XH (.slice (some ⟨w3_K.heap.size,0,none⟩) 2 2) [jQ,jO]):=by rw[hXH];exact⟨HSK.out.keep (World.grownBy_alloc _ _ none),qe rfl (ai _ _ _)⟩
 have CH:Calls Tryz.prog 60 #[.string ⟨#[104,111,108,108,111,119]⟩,.int .u8 5,.int .u8 3,.int .i64 0,.slice (some ⟨w3_K.heap.size,0,none⟩) 2 2] XH fun e w'=>e=.returned (.agg #[.string ⟨#[104,111,108,108,111,119]⟩,.int .u8 5,.int .u8 3,.int .i64 0,.int .i64 0,.int .i64 0,.int .u16 0,.bool false,.slice (some ⟨w3_K.heap.size,0,none⟩) 2 2])∧XH.grownBy w' none:=j6 _ _ _ _ _ _ _ _
 clear HSK
 go_wp2_with fail
 rw[←hXH]
 clear hXH
 refine CH.mono ?_
 rintro e w2_H ⟨rfl,g2⟩
 clear CH
 have DH:Calls Tryz.prog 59 #[.pointer (some ⟨b,0,none⟩),.agg #[.string ⟨#[104,111,108,108,111,119]⟩,.int .u8 5,.int .u8 3,.int .i64 0,.int .i64 0,.int .i64 0,.int .u16 0,.bool false,.slice (some ⟨w3_K.heap.size,0,none⟩) 2 2]] w2_H fun e w'=>∃ u,e=.returned (.int .i64 0)∧SxS w w' b n4 (ins [eG uG,eR uR,eK uK] ⟨sxH,u,[jQ,jO]⟩) bC:=SxS.card (HXH.out.1.keep g2) (HXH.out.2.keep g2) (by unfold bm;simp) (Ej uG uR uK)
 clear g2 HXH
 go_wp2_with fail
 refine DH.mono ?_
 rintro e w3_H ⟨uH,rfl,h3_H⟩
 have HSH:Hid (SxS w w3_H b n4 [eG uG,eR uR,eK uK,eH uH] bC):=by have q:=h3_H;rwa [show ins [eG uG,eR uR,eK uK] ⟨sxH,uH,[jQ,jO]⟩=[eG uG,eR uR,eK uK,eH uH] from F9 uG uR uK uH] at q
 clear DH h3_H
 have CS:Calls Tryz.prog 61 #[.pointer (some ⟨b,0,none⟩)] w3_H fun e w'=>e=.returned (.int .i64 0)∧cR (qI b) w' b (nL uG uR uK uH) exP∧w3_H.grownBy w' (some b):=by
  have q:=DU (qI b) b (nL uG uR uK uH) bC w3_H HSH.out.bk (Nat.lt_irrefl _)
  rw[vq,Dt] at q
  exact q
 go_wp2_with fail
 refine CS.mono ?_
 rintro e w7 ⟨rfl,B7,g7⟩
 have HB7:Hid (cR (fun k=>qI b k∧k<w7.heap.size) w7 b (nL uG uR uK uH) exP∧w.grownBy w7 none∧b<w7.heap.size):=⟨B7.oldL,(HSH.out.turn g7 B7).gr,B7.lt⟩
 clear CS B7 g7 HSH
 obtain⟨Y,hY⟩:∃ Y,Y=w7.alloc (.cells #[.int .i64 2,.int .i64 0,.int .u8 4,.int .i64 1,.int .i64 0,.int .i64 0,.int .i64 0,.int .i64 0,.int .i64 0,.int .i64 0,.bool false,.int .i64 1,.int .i64 0,.int .u8 4,.int .i64 2,.int .i64 0,.int .i64 0,.int .i64 0,.int .i64 0,.int .i64 0,.int .i64 0,.bool false,.int .i64 4,.int .i64 1,.int .u8 4,.int .i64 3,.int .i64 0,.int .i64 0,.int .i64 0,.int .i64 0,.int .i64 0,.int .i64 0,.bool false,.int .i64 3,.int .i64 0,.int .u8 4,.int .i64 4,.int .i64 0,.int .i64 0,.int .i64 0,.int .i64 0,.int .i64 0,.int .i64 0,.bool false] 100):=⟨_,rfl⟩
 have HY:Hid (Y.heap[w7.heap.size]?=some (.cells #[.int .i64 2,.int .i64 0,.int .u8 4,.int .i64 1,.int .i64 0,.int .i64 0,.int .i64 0,.int .i64 0,.int .i64 0,.int .i64 0,.bool false,.int .i64 1,.int .i64 0,.int .u8 4,.int .i64 2,.int .i64 0,.int .i64 0,.int .i64 0,.int .i64 0,.int .i64 0,.int .i64 0,.bool false,.int .i64 4,.int .i64 1,.int .u8 4,.int .i64 3,.int .i64 0,.int .i64 0,.int .i64 0,.int .i64 0,.int .i64 0,.int .i64 0,.bool false,.int .i64 3,.int .i64 0,.int .u8 4,.int .i64 4,.int .i64 0,.int .i64 0,.int .i64 0,.int .i64 0,.int .i64 0,.int .i64 0,.bool false] 100 (0,0))∧w7.grownBy Y none):=by rw[hY];exact⟨ai _ _ _,World.grownBy_alloc _ _ none⟩
 go_upto_region 9 with fail
 rw[←hY]
 clear hY
 obtain⟨S,hS⟩:∃ S,S=w7.heap.size:=⟨_,rfl⟩
 rw[←hS] at HY HB7 ⊢
 clear hS
 have rf:=fun i=>ao HY.out.1 i
 have r18:Y.cell? ⟨S,18,none⟩=some (.int .i64 0):=(ac HY.out.1 18).trans rfl
 go_upto_region 10 with fail
 obtain⟨Z,hZ⟩:∃ Z,Z=Y.setCell ⟨S,18,none⟩ (.int .i64 1):=⟨_,rfl⟩
 rw[←hZ]
 have HZ:Hid (Z.heap[S]?=some (.cells (thR.cs sxT).toArray 100 (0,0))∧Y.grownBy Z (some S)):=by rw[hZ];exact⟨AW HY.out.1 rfl,aj _ _ _ _⟩
 have HW:Hid (cR (fun k=>qI b k∧k<S) Z b (nL uG uR uK uH) exP∧w.grownBy Z none∧S<Z.heap.size):=by
  obtain⟨h1,h2,h3⟩:=HB7.out
  have l:=HBb.out
  exact⟨(h1.keep HY.out.2).keepR HZ.out.2 (fun q=>by cases q;omega) (fun k hk q=>by cases q;exact Nat.lt_irrefl _ hk.2),am (aa h2 HY.out.2) HZ.out.2 (fun x e=>by cases e;omega),bf HZ.out.1⟩
 clear hZ rf r18 HY
 obtain⟨F,hF⟩:∃ F,F=Z.alloc (.cells #[.int .i64 0,.int .u8 2,.int .u16 0,.int .i64 0,.int .i64 0,.int .i64 0,.int .u8 2,.int .u16 0,.int .i64 0,.int .i64 5,.int .i64 1,.int .u8 5,.int .u16 0,.int .i64 0,.int .i64 0,.int .i64 0,.int .u8 2,.int .u16 0,.int .i64 0,.int .i64 1] 65):=⟨_,rfl⟩
 have HF:Hid (F.heap[Z.heap.size]?=some (.cells (feR.cs sxF).toArray 65 (0,0))∧Z.grownBy F none):=by rw[hF];exact⟨ai _ _ _,World.grownBy_alloc _ _ none⟩
 go_upto_region 11 with fail
 rw[←hF]
 clear hF
 obtain⟨f,hf⟩:∃ f,f=Z.heap.size:=⟨_,rfl⟩
 have HSf:Hid (S≤f):=by have:=HW.out.2.2;show _≤_;omega
 rw[←hf] at HF ⊢
 clear hf
 go_wp2_with fail
 refine bodyPost_ret (v:=.tuple #[.pointer (some ⟨b,0,none⟩),.slice (some ⟨S,0,none⟩) 4 4,.slice (some ⟨f,0,none⟩) 4 4]) (by simp[results,Tryz.results9,go_sem]) rfl ?_
 exact⟨uG,uR,uK,uH,S,S,f,rfl,HW.out.1.keep HF.out.2,yV S S F (Nat.le_refl _) (ae HF.out.2 HZ.out.1 (by simp)),BC S f F HSf.out HF.out.1,aa HW.out.2.1 HF.out.2,by have:=HBb.out;omega,HB7.out.2.2⟩
def kT:Int→Hd×List Pt:=atC exP (nL (.bool false) (.bool false) (.bool false) (.bool false))
theorem FJ (vG vR vK vH:Value):atC exP (nL vG vR vK vH)=kT:=by
 funext n
 unfold kT atC
 split
 ·generalize (n - 1).toNat=k
  match k with
  | 0=>rfl
  | 1=>rfl
  | 2=>rfl
  | 3=>rfl
  | k+4=>rfl
 ·rfl
def sxE (h:Hp):Int:=laE 0 4 kT sxT sxF h
def sxA (h:Hp):Ss:=fk 0 4 kT sxT sxF h
def sxX (h:Hp):Ss:=if sxE h=0 then sxA h else ⟨Hp.none,[],-1,0⟩
theorem FO {w wr:World} {b S g f:Nat} {vG vR vK vH:Value} (H:SxR w wr b S g f vG vR vK vH):SIn wr (.pointer (some ⟨b,0,none⟩)) (.slice (some ⟨g,0,none⟩) 4 4) (.slice (some ⟨f,0,none⟩) 4 4) 0 4 kT sxT sxF:=by
 have h:=SIn.of H.bk H.th.at H.fe.at (by decide)
 rw[FJ] at h
 exact h
theorem xv (vb on ct:Int) (w:World):Calls Tryz.prog 12 #[.int .u8 vb,.int .i64 on,.int .i64 ct] w fun e w'=>∃ p m c,e=.returned (dL (sxX ⟨vb,on,ct,0,false,false⟩).af (.slice p m c) (sxX ⟨vb,on,ct,0,false,false⟩).go (sxX ⟨vb,on,ct,0,false,false⟩).li)∧bi w' w.heap.size (.slice p m c) (sxX ⟨vb,on,ct,0,false,false⟩).us∧w.grownBy w' none:=by
 obtain⟨W1,hW1⟩:∃ W1,W1=w.alloc (.cells #[.int .u8 0,.int .i64 0,.int .i64 0,.int .i64 0,.bool false,.bool false,.slice none 0 0,.int .i64 0,.int .i64 0] 45):=⟨_,rfl⟩
 have HW1:Hid (w.grownBy W1 none∧SwB W1 w.heap.size Hp.none (.slice none 0 0) 0 0):=by rw[hW1];exact⟨World.grownBy_alloc _ _ none,ai _ _ _⟩
 have C1:=nD W1
 go_enter Tryz.func12,Tryz.ntmps12
 go_upto_region 1 with fail
 rw[←hW1]
 clear hW1
 obtain⟨n6,hn6⟩:∃ n6,n6=w.heap.size:=⟨_,rfl⟩
 have Hn6:Hid (w.heap.size≤n6):=by show _≤_;omega
 rw[←hn6] at HW1 ⊢
 clear hn6
 go_wp2_with fail
 refine C1.mono ?_
 rintro e w2 ⟨vG,vR,vK,vH,S,g,f,rfl,H2⟩
 have HR:Hid (W1.grownBy w2 none):=H2.gr
 have CA:=mD _ _ _ 0 4 kT sxT sxF ⟨vb,on,ct,0,false,false⟩ w2 (FO H2) ⟨_,rfl⟩
 unfold hpv at CA
 obtain⟨x,hx⟩:∃ x,x=sxE ⟨vb,on,ct,0,false,false⟩:=⟨_,rfl⟩
 obtain⟨X,hX⟩:∃ X,X=sxA ⟨vb,on,ct,0,false,false⟩:=⟨_,rfl⟩
 rw[show laE 0 4 kT sxT sxF ⟨vb,on,ct,0,false,false⟩=x from hx.symm,show fk 0 4 kT sxT sxF ⟨vb,on,ct,0,false,false⟩=X from hX.symm] at CA
 have HX:Hid (sxX ⟨vb,on,ct,0,false,false⟩=if x=0 then X else ⟨Hp.none,[],-1,0⟩):=by rw[hx,hX];rfl
 clear C1 H2 hx hX
 go_wp2_with fail
 refine CA.mono ?_
 rintro e w3 ⟨p,m,c,rfl,o3,g3⟩
 have H3:Hid (bi w3 w.heap.size (.slice p m c) X.us∧w.grownBy w3 none∧SwB w3 n6 Hp.none (.slice none 0 0) 0 0):=⟨aY o3 (aa HW1.out.1 HR.out).size,aa HW1.out.1 (aa HR.out g3),ae (aa HR.out g3) HW1.out.2 (by simp)⟩
 clear CA o3 g3 HR HW1
 unfold dL
 obtain⟨Y,hY⟩:∃ Y,Y=w3.alloc (.cells #[.int .u8 X.af.vb,.int .i64 X.af.on,.int .i64 X.af.ct,.int .i64 X.af.ho,.bool X.af.vn,.bool X.af.dr,.slice p m c,.int .i64 X.go,.int .i64 X.li] 45):=⟨_,rfl⟩
 have HY:Hid (SwB Y w3.heap.size X.af (.slice p m c) X.go X.li∧bi Y w.heap.size (.slice p m c) X.us∧w.grownBy Y none∧SwB Y n6 Hp.none (.slice none 0 0) 0 0):=by
  have g:w3.grownBy Y none:=by rw[hY];exact World.grownBy_alloc _ _ none
  exact⟨by rw[hY];exact ai _ _ _,aA H3.out.1 g,aa H3.out.2.1 g,ae g H3.out.2.2 (by simp)⟩
 clear H3
 go_upto_region 3 with fail
 rw[←hY]
 clear hY
 obtain⟨n10,hn10⟩:∃ n10,n10=w3.heap.size:=⟨_,rfl⟩
 rw[←hn10] at HY ⊢
 clear hn10
 by_cases hx:x=0
 ·subst hx
  have HE:Hid (sxX ⟨vb,on,ct,0,false,false⟩=X):=HX.out.trans (if_pos rfl)
  clear HX
  obtain⟨y0,y1,y2,y3,y4,y5,y6,y7,y8⟩:=bz HY.out.1
  go_wp2_with (refine wpList_store_row rfl 45 (.tmp 6) (.tmp 31) rfl n6 (swa X.af (.slice p m c) X.go X.li) rfl rfl 45 _ HY.out.2.2.2 (by kernel_rfl) rfl (by simp[swa,Value.oneCell']) ?_)
  obtain⟨Wr,hWr⟩:∃ Wr,Wr=Y.setRow n6 (swa X.af (.slice p m c) X.go X.li):=⟨_,rfl⟩
  have HWr:Hid (SwB Wr n6 X.af (.slice p m c) X.go X.li∧Y.grownBy Wr (some n6)):=⟨by rw[hWr];exact fC Y n6 _ _ _ _ _ _ _ _ (HY.out.2.2.2),by rw[hWr];exact aO _ _ _⟩
  rw[←hWr]
  clear hWr y0 y1 y2 y3 y4 y5 y6 y7 y8
  obtain⟨r0,r1,r2,r3,r4,r5,r6,r7,r8⟩:=bz HWr.out.1
  refine bodyPost_ret (v:=dL X.af (.slice p m c) X.go X.li) (by simp[results,Tryz.results12,go_sem,dL,r0,r1,r2,r3,r4,r5,r6,r7,r8]) rfl ⟨p,m,c,by rw[HE.out],?_,am HY.out.2.2.1 HWr.out.2 (fun y e=>by cases e;exact Hn6.out)⟩
  rw[HE.out]
  exact bX HY.out.2.1 HWr.out.2 HY.out.2.2.2 (by decide)
 ·have HE:Hid (sxX ⟨vb,on,ct,0,false,false⟩=⟨Hp.none,[],-1,0⟩):=HX.out.trans (if_neg hx)
  have k1:(x == 0)=false:=by simpa using hx
  clear HX
  go_wp2_with (refine wpList_store_row rfl 45 (.tmp 6) (.tmp 30) rfl n6 (swa Hp.none (.slice none 0 0) (-1) 0) rfl rfl 45 _ HY.out.2.2.2 (by kernel_rfl) rfl (by simp[swa,Value.oneCell']) ?_)
  obtain⟨Wr,hWr⟩:∃ Wr,Wr=Y.setRow n6 (swa Hp.none (.slice none 0 0) (-1) 0):=⟨_,rfl⟩
  have HWr:Hid (SwB Wr n6 Hp.none (.slice none 0 0) (-1) 0∧Y.grownBy Wr (some n6)):=⟨by rw[hWr];exact fC Y n6 _ _ _ _ _ _ _ _ (HY.out.2.2.2),by rw[hWr];exact aO _ _ _⟩
  rw[←hWr]
  clear hWr
  obtain⟨r0,r1,r2,r3,r4,r5,r6,r7,r8⟩:=bz HWr.out.1
  refine bodyPost_ret (v:=dL Hp.none (.slice none 0 0) (-1) 0) (by simp[results,Tryz.results12,go_sem,dL,r0,r1,r2,r3,r4,r5,r6,r7,r8]) rfl ⟨none,0,0,by rw[HE.out],?_,am HY.out.2.2.1 HWr.out.2 (fun y e=>by cases e;exact Hn6.out)⟩
  rw[HE.out]
  exact ay.Own.nil sdR _ Wr _
def yb:List Rw:=[⟨1,1,sxR,[fA,fA,kq]⟩,⟨2,2,sxG,[fA,nP]⟩,⟨3,3,sxH,[jQ,jO]⟩,⟨4,4,sxK,[]⟩]
def Fc:List Sd:=[⟨1,2,kq⟩,⟨2,1,nP⟩,⟨3,0,jQ⟩,⟨3,1,jO⟩]
theorem CI:sortR yb=yb:=List.mergeSort_of_pairwise (by unfold yb;simp)
theorem AE:bd 4 kT sxT sxF=some yb:=by
 unfold bd
 rw[if_pos (by decide),show cZ 4 kT (sxT.zip sxF) 0 []=some yb from by kernel_rfl]
 simp only[CI]
 rw[if_pos (by decide)]
theorem FF:swL yb sxF=Fc:=by kernel_rfl
def sxV (h:Hp):Ss:=if bw sxT h=true then (if cG h=true then Ss.none else if (decide (h.vb=1) && jI kT sxT h.on)=true then ⟨Hp.none,[],1,0⟩ else ig kT sxT sxF Fc h (bU Fc []) (Ss.begin h)) else ⟨Hp.none,[],-1,0⟩
theorem Ap (h:Hp):sxX h=sxV h:=by
 have hb:=lW AE (k:=1) (by decide)
 have e:sxE h=if bw sxT h=true then 0 else 2:=by unfold sxE laE;rw[if_pos hb]
 unfold sxX sxV
 by_cases hm:bw sxT h=true
 ·rw[if_pos hm] at e ⊢
  rw[if_pos e]
  unfold sxA fk
  rw[if_neg (fun q=>q e),ke hb AE,FF]
  rfl
 ·rw[if_neg hm] at e ⊢
  rw[e,if_neg (by decide)]
theorem Fw:sxX ⟨1,4,3,0,false,false⟩=⟨⟨1,4,2,0,false,false⟩,[⟨1,2,kq⟩],0,0⟩:=by rw[Ap];kernel_rfl
theorem FM:sxX ⟨1,-2,5,0,false,false⟩=⟨⟨1,-1,10,0,false,false⟩,[⟨3,1,jO⟩,⟨3,0,jQ⟩],0,0⟩:=by rw[Ap];kernel_rfl
def xU (w:World) (q:Option Addr) (L:List Sd):Prop:=0<L.length→∃ g,q=some ⟨g,0,none⟩∧∀ (j:Nat) s,L[j]?=some s→w.cell? ⟨g,2*j,none⟩=some (.int .i64 s.th)∧w.cell? ⟨g,2*j+1,none⟩=some (.int .i64 s.pl)
theorem xU.keep {w w':World} {q:Option Addr} {L:List Sd} (h:xU w q L) (g:w.grownBy w' none):xU w' q L:=fun h0=>by
 obtain⟨a,e,h2⟩:=h h0
 exact⟨a,e,fun j s hs=>⟨g.cell (h2 j s hs).1 (by simp),g.cell (h2 j s hs).2 (by simp)⟩⟩
theorem Ct (j n:Nat) (hj:j<n) (hn:n≤64):(0:Int)≤(j:Int)∧(j:Int)<(n:Int)∧((j:Int)).toNat=j∧(0:Int)≤2*(j:Int)∧2*(j:Int)<((2*n:Nat):Int)∧(2*(j:Int)).toNat=2*j∧(0:Int)≤2*(j:Int)+1∧2*(j:Int)+1<((2*n:Nat):Int)∧(2*(j:Int)+1).toNat=2*j+1∧wrap64 (2*(j:Int))=2*(j:Int)∧wrap64 (2*(j:Int)+1)=2*(j:Int)+1∧wrap64 ((j:Int)+1)=(j:Int)+1:=by
 refine⟨by omega,by omega,by omega,by omega,by omega,by omega,by omega,by omega,by omega,?_,?_,?_⟩ <;> (unfold wrap64;omega)
theorem AR {j n:Nat} (h:(j:Int)<(n:Int)):j<n∧n - (j+1)<n - j∧j+1≤n:=by omega
theorem Ed {j n:Nat} (h:¬(j:Int)<(n:Int)):¬j<n:=by omega
theorem pP {j n:Nat} {L:List Sd} (h:(j:Int)<(n:Int)) (e:n=L.length):j<L.length∧0<L.length:=by omega
theorem sn (v on ct go:Int) (p q:Option Addr) (n c m d:Nat) (L:List Sd) (w:World) (A:sdR.At w (.slice p n c) L) (B:xU w q L) (hn:n=L.length) (hm:m=2*n) (hl:L.length≤64):Calls Tryz.prog 11 #[dL ⟨v,on,ct,0,false,false⟩ (.slice p n c) go 0,.int .u8 v,.int .i64 on,.int .i64 ct,.int .i64 go,.slice q m d] w fun e w'=>e=.returned (.bool true)∧w.grownBy w' none:=by
 obtain⟨V,hV⟩:∃ V,V=w.alloc (.cells #[.int .u8 v,.int .i64 on,.int .i64 ct,.int .i64 0,.bool false,.bool false,.slice p n c,.int .i64 go,.int .i64 0] 45):=⟨_,rfl⟩
 have HG:Hid (w.grownBy V none):=by rw[hV];exact World.grownBy_alloc _ _ none
 have HS:Hid (SwB V w.heap.size ⟨v,on,ct,0,false,false⟩ (.slice p n c) go 0):=by rw[hV];exact ai w _ _
 have HA:Hid (sdR.At V (.slice p n c) L∧xU V q L):=⟨A.keep HG.out,B.keep HG.out⟩
 have HL:Hid (n=L.length∧n≤64):=⟨hn,by omega⟩
 have w2:wrap64 (2*(n:Int))=(m:Int):=by unfold wrap64;omega
 have hnq:=tQ
 have hgq:=nl
 unfold hpa at hnq
 have kn:(((n:Int)*2) == (m:Int))=true:=by rw[hm];simp;omega
 unfold dL
 have HMn:Hid (m=2*n):=hm
 clear A B hn hl hm
 go_enter Tryz.func11,Tryz.ntmps11
 go_upto_region 1 with fail
 rw[←hV]
 clear hV
 obtain⟨n0,hn0⟩:∃ n0,n0=w.heap.size:=⟨_,rfl⟩
 simp only[←hn0] at HS ⊢
 clear hn0
 obtain⟨x0,x1,x2,x3,x4,x5,x6,x7,x8⟩:=bz HS.out
 go_wp2_with fail
 clear x0 x1 x2 x3 x4 x5 x6 x7 x8 hnq hgq kn w2
 go_loopw [13] (fun i wr=>∃ (j:Nat),j≤n∧i=.int .i64 (j:Int)∧Hid (V.grownBy wr none)) (fun i _=>n - (intOf i).toNat)
 case atStart=>exact⟨0,Nat.zero_le _,rfl,aq _ _⟩
 case round =>
  obtain⟨j,hj,rfl,HR⟩:=hrel
  obtain⟨U,hU⟩:∃ U,U=wr:=⟨_,rfl⟩
  subst hU
  have HS2:Hid (SwB U n0 ⟨v,on,ct,0,false,false⟩ (.slice p n c) go 0):=ae HR.out HS.out (by simp)
  obtain⟨x0,x1,x2,x3,x4,x5,x6,x7,x8⟩:=bz HS2.out
  by_cases hc:(j:Int)<(n:Int)
  ·have hjn:j<L.length:=(pP hc HL.out.1).1
   obtain⟨p',c',e1,hmx,hA⟩:=HA.out.1.keep HR.out
   injection e1 with e1 e2 e3
   obtain⟨g,off,e4,hR⟩:=hA (pP hc HL.out.1).2
   obtain⟨g2,e5,hB⟩:=HA.out.2.keep HR.out (pP hc HL.out.1).2
   have hx:=bu (hR j L[j] (List.getElem?_eq_getElem hjn))
   have hy:=hB j L[j] (List.getElem?_eq_getElem hjn)
   obtain⟨y0,y1,-⟩:=hx
   obtain⟨z0,z1⟩:=hy
   rw[e4] at e1
   obtain⟨s,hs⟩:∃ s,s=L[j]:=⟨_,rfl⟩
   rw[←hs] at y0 y1 z0 z1
   rw[show sdR.k=10 from rfl] at y0 y1
   have HX:=Ct j n (AR hc).1 HL.out.2
   rw[←HMn.out] at HX
   obtain⟨k1,k2,k3,k4,k5,k6,k7,k8,k9,k10,k11,k12⟩:=HX
   subst e1
   subst e5
   have HM:Hid (n - (j+1)<n - j∧j+1≤n):=(AR hc).2
   clear e2 e3 e4 hmx hA hB hR hs
   go_upto_region 6 with fail
   go_quiet (fail)
   go_wp2_with fail
   go_roundw
   case rel=>exact⟨j+1,HM.out.2,by rw[k12];rfl,aa HR.out (ax _ _ _)⟩
   case measure=>rw[k12];exact HM.out.1
  ·have hc':¬j<n:=Ed hc
   go_wp2_with fail
   go_ret
   exact⟨rfl,aa HG.out HR.out⟩
theorem ti (vb on ct:Int) (X:Ss) (hX:sxX ⟨vb,on,ct,0,false,false⟩=X) (w:World):Calls Tryz.prog 12 #[.int .u8 vb,.int .i64 on,.int .i64 ct] w fun e w'=>∃ p c,e=.returned (dL X.af (.slice p X.us.length c) X.go X.li)∧sdR.At w' (.slice p X.us.length c) X.us∧w.grownBy w' none:=by
 refine(xv vb on ct w).mono ?_
 rintro e w' ⟨p,m,c,rfl,O,g⟩
 rw[hX] at O ⊢
 obtain⟨p2,c2,e2⟩:=O.form
 injection e2 with e3 e4 e5
 subst e4
 exact⟨p,c,rfl,ay.Own.at O,g⟩
theorem wR:∀ (L:List Sd) (j:Nat) (s:Sd),L[j]?=some s→(L.flatMap fun s=>[Value.int .i64 s.th,.int .i64 s.pl])[2*j]?=some (.int .i64 s.th)∧(L.flatMap fun s=>[Value.int .i64 s.th,.int .i64 s.pl])[2*j+1]?=some (.int .i64 s.pl)
 | [],j,s,h=>by simp at h
 | a :: L,0,s,h=>by
  simp at h
  subst h
  exact⟨rfl,rfl⟩
 | a :: L,j+1,s,h=>by
  have q:=wR L j s (by simpa using h)
  exact⟨q.1,q.2⟩
theorem BQ {W:World} {g:Nat} {L:List Sd} {T:TypeId} {cs:Array Value} (h:W.heap[g]?=some (.cells cs T (0,0))) (e:cs.toList=L.flatMap fun s=>[Value.int .i64 s.th,.int .i64 s.pl]):xU W (some ⟨g,0,none⟩) L:=fun _=>⟨g,rfl,fun j s hs=>by
 have q:=wR L j s hs
 rw[←e] at q
 exact⟨(ac h (2*j)).trans (by simpa using q.1),(ac h (2*j+1)).trans (by simpa using q.2)⟩⟩
theorem iG (w:World):Calls Tryz.prog 14 #[] w fun e w'=>e=.returned (.bool true)∧w.grownBy w' none:=by
 have HW:Hid (w.grownBy w none):=aq _ _
 go_enter Tryz.func14,Tryz.ntmps14
 have C1:Calls Tryz.prog 12 #[.int .u8 1,.int .i64 4,.int .i64 3] w fun e w'=>∃ p c,e=.returned (.agg #[.int .u8 1,.int .i64 4,.int .i64 2,.int .i64 0,.bool false,.bool false,.slice p 1 c,.int .i64 0,.int .i64 0])∧sdR.At w' (.slice p 1 c) [⟨1,2,kq⟩]∧w.grownBy w' none:=ti _ _ _ _ Fw w
 go_wp2_with fail
 refine C1.mono ?_
 rintro e v1 ⟨p1,c1,rfl,A1,g1⟩
 have HV1:Hid (w.grownBy v1 none):=aa HW.out g1
 obtain⟨X1,hX1⟩:∃ X,X=v1.alloc (.cells #[.int .i64 1,.int .i64 2] 3):=⟨_,rfl⟩
 have HX1:Hid (w.grownBy X1 none):=by rw[hX1];exact ak HV1.out _
 have I1:Calls Tryz.prog 11 #[.agg #[.int .u8 1,.int .i64 4,.int .i64 2,.int .i64 0,.bool false,.bool false,.slice p1 1 c1,.int .i64 0,.int .i64 0],.int .u8 1,.int .i64 4,.int .i64 2,.int .i64 0,.slice (some ⟨v1.heap.size,0,none⟩) 2 2] X1 fun e w'=>e=.returned (.bool true)∧X1.grownBy w' none:=sn 1 4 2 0 p1 _ 1 c1 2 2 [⟨1,2,kq⟩] X1 (A1.keep (by rw[hX1];exact World.grownBy_alloc _ _ none)) (BQ (L:=[⟨1,2,kq⟩]) (by rw[hX1];exact ai _ _ _) rfl) rfl rfl (by decide)
 clear A1 g1 C1
 go_wp2_with fail
 rw[←hX1]
 clear hX1
 refine I1.mono ?_
 rintro e u1 ⟨rfl,g1⟩
 have HU1:Hid (w.grownBy u1 none):=aa HX1.out g1
 clear g1 I1
 have C2:Calls Tryz.prog 12 #[.int .u8 1,.int .i64 (-2),.int .i64 5] u1 fun e w'=>∃ p c,e=.returned (.agg #[.int .u8 1,.int .i64 (-1),.int .i64 10,.int .i64 0,.bool false,.bool false,.slice p 2 c,.int .i64 0,.int .i64 0])∧sdR.At w' (.slice p 2 c) [⟨3,1,jO⟩,⟨3,0,jQ⟩]∧u1.grownBy w' none:=ti _ _ _ _ FM u1
 go_wp2_with fail
 refine C2.mono ?_
 rintro e v2 ⟨p2,c2,rfl,A2,g2⟩
 have HV2:Hid (w.grownBy v2 none):=aa HU1.out g2
 obtain⟨X2,hX2⟩:∃ X,X=v2.alloc (.cells #[.int .i64 3,.int .i64 1,.int .i64 3,.int .i64 0] 3):=⟨_,rfl⟩
 have HX2:Hid (w.grownBy X2 none):=by rw[hX2];exact ak HV2.out _
 have I2:Calls Tryz.prog 11 #[.agg #[.int .u8 1,.int .i64 (-1),.int .i64 10,.int .i64 0,.bool false,.bool false,.slice p2 2 c2,.int .i64 0,.int .i64 0],.int .u8 1,.int .i64 (-1),.int .i64 10,.int .i64 0,.slice (some ⟨v2.heap.size,0,none⟩) 4 4] X2 fun e w'=>e=.returned (.bool true)∧X2.grownBy w' none:=sn 1 (-1) 10 0 p2 _ 2 c2 4 4 [⟨3,1,jO⟩,⟨3,0,jQ⟩] X2 (A2.keep (by rw[hX2];exact World.grownBy_alloc _ _ none)) (BQ (L:=[⟨3,1,jO⟩,⟨3,0,jQ⟩]) (by rw[hX2];exact ai _ _ _) rfl) rfl rfl (by decide)
 clear A2 g2 C2
 go_wp2_with fail
 rw[←hX2]
 clear hX2
 refine I2.mono ?_
 rintro e u2 ⟨rfl,g2⟩
 have HU2:Hid (w.grownBy u2 none):=aa HX2.out g2
 clear g2 I2
 go_wp2_with fail
 go_ret
 exact⟨rfl,HU2.out⟩
theorem vI (Y:List Th) (i:Nat) (a b:Th):(Y.set i a).set i b=Y.set i b:=by simp
theorem Bu {w:World} {base g n c:Nat} {l:List Th} {i:Nat} {t:Th} (O:thR.Own 100 w base (.slice (some ⟨g,0,none⟩) n c) l) (ht:l[i]?=some t):w.rangeAt g (i*11) (thc t):=by
 have hi:=(List.getElem?_eq_some_iff.1 ht)
 obtain⟨g',off,cap,e,q⟩:=bG (ay.Own.at O) hi.1
 cases e
 rw[Nat.zero_add,hi.2] at q
 exact q
theorem qB {w:World} {base g n c:Nat} {l:List Th} (O:thR.Own 100 w base (.slice (some ⟨g,0,none⟩) n c) l) (j:Nat):w.frozen? ⟨g,j,none⟩=false:=by
 obtain⟨p,q,e⟩:=ay.Own.form O
 cases e
 exact World.ownsRow.frozenAt O j
theorem Cz {w:World} {base n:Nat} {p:Option Addr} {c:Nat} {l:List Th} (O:thR.Own 100 w base (.slice p n c) l) (h0:0<l.length):∃ g,p=some ⟨g,0,none⟩∧base≤g:=by
 obtain⟨g,cap,e,hb,_⟩:=em O h0
 cases e
 exact⟨g,rfl,hb⟩
end Go.Proofs.YthfjgpjcepmnmaaGreat
