import Derived.Test.YtjmepebbcnhalaaGreatV29
namespace Go.Proofs.YtjmepebbcnhalaaGreat
set_option maxRecDepth 100000
set_option maxHeartbeats 4000000
open Go.RowKit
variable {w w' wr wr':World} {base size b B i j:Nat} {v vr vf vt:Value} {xs:List Value} {cs:Array Value} {F fs:List Fe} {L A:List Se} {R:List Rw} {ok:Nat→Prop} {es:List Ent} {p:Pl} {ts:List Th} {cd:Int→Hd×List Pt} {t:Th} {f:Fe} {n k:Int} {e:Se}
theorem di {e n:Nat} {t:TypeId} {fr:Nat×Nat} (h:w.ownsRow base e size v n xs) (g:w.grownBy w' (some b)) (hb:w.heap[b]?=some (.cells cs t fr)) (hne:t≠e):w'.ownsRow base e size v n xs:=by
 refine World.ownsRow.kept h g ?_
 cases hv:v.ownBlock with
 | none=>exact Or.inl rfl
 | some y=>exact Or.inr fun q=>dv h hb hne (by rw[hv,←q])
theorem TbO.tagged {X:List Rv} {t:TypeId} {fr:Nat×Nat} (h:TbO w base vr vf X F) (g:w.grownBy w' (some b)) (hb:w.heap[b]?=some (.cells cs t fr)) (h1:t≠230) (h2:t≠62) (h3:t≠122):TbO w' base vr vf X F:=⟨di h.rows g hb h1,fun x hx=>⟨di (h.parts x hx).1 g hb h2,(h.parts x hx).2⟩,di h.fs g hb h3,h.len,h.few⟩
theorem TbO.block {X:List Rv} {b' t n:Nat} (h:TbO w base vr vf X F) (o:w.ownsRow b' t size v n xs) (g:w.grownBy w' v.ownBlock) (h1:t≠230) (h2:t≠62) (h3:t≠122):TbO w' base vr vf X F:=⟨bK h.rows o h1 g,fun x hx=>⟨bK (h.parts x hx).1 o h2 g,(h.parts x hx).2⟩,bK h.fs o h3 g,h.len,h.few⟩
theorem tf {nb:Nat} {b' t n:Nat} (h:TbB w nb vr vf) (o:w.ownsRow b' t size v n xs) (g:w.grownBy w' v.ownBlock) (h1:125≠t):TbB w' nb vr vf:=ag g h (dv o h h1)
structure AlS (w wr:World) (B nb:Nat) (vr vf vL vA:Value) (X:List Rv) (F:List Fe) (L A:List Se):Prop where
 tb:TbO wr B vr vf X F
 bx:TbB wr nb vr vf
 lf:eG wr B vL L
 ap:bF wr B vA (A.map Se.s)
 ro:∀ i,i<L.length→(L.getD i Se.none).ro<X.length
 fw:L.length+A.length≤64
 gr:w.grownBy wr none
structure AlT (w wr:World) (B nb:Nat) (vr vf vL vA:Value) (X:List Rv) (F:List Fe) (L A:List Se):Prop where
 tb:TbO wr B vr vf X F
 bx:TbB wr nb vr vf
 lf:eG wr B vL L
 ap:bF wr B vA (A.map Se.s)
 ro:∀ i,i<L.length→(L.getD i Se.none).ro<X.length
 fw:L.length+A.length≤65
 gr:w.grownBy wr none
theorem AlS.grow {nb:Nat} {vL vA:Value} {X:List Rv} (h:AlS w wr B nb vr vf vL vA X F L A) (g:wr.grownBy wr' none):AlS w wr' B nb vr vf vL vA X F L A:=⟨h.tb.grow g,ag g h.bx (by simp),h.lf.grow g,h.ap.grow g,h.ro,h.fw,ae h.gr g⟩
theorem nV (w:World) (g:Nat) (cs:Array Value):w.grownBy (w.setRow g cs) (some g) :=
 ⟨rfl,rfl,rfl,by simp[World.setRow],fun k _ hk=>setRow_other w g k cs (fun e=>hk (by rw[e]))⟩
theorem AlS.stored {nb:Nat} {vf' vL vA:Value} {X:List Rv} {F':List Fe} (h:AlS w wr B nb vr vf vL vA X F L A) (o:aQ wr B vf' F') (hl:F'.length=F.length) (hb:w.heap.size≤nb):AlS w (wr.setRow nb #[vr,vf']) B nb vr vf' vL vA X F' L A:=by
 have g:=nV wr nb #[vr,vf']
 have t:=h.tb.tagged g h.bx (by decide) (by decide) (by decide)
 exact⟨⟨t.rows,t.parts,di o g h.bx (by decide),by rw[hl];exact h.tb.len,t.few⟩,setRow_heap wr nb _ _ _ _ h.bx,di h.lf g h.bx (by decide),di h.ap g h.bx (by decide),h.ro,h.fw,fy h.gr hb _⟩
theorem AlS.taken {nb:Nat} {vL vA vA':Value} {X:List Rv} {A':List Se} (h:AlS w wr B nb vr vf vL vA X F L A) (o:bF w' B vA' (A'.map Se.s)) (g:wr.grownBy w' vA.ownBlock) (hf:L.length+A'.length≤65) (hB:w.heap.size≤B):AlT w w' B nb vr vf vL vA' X F L A':=⟨h.tb.block h.ap g (by decide) (by decide) (by decide),tf h.bx h.ap g (by decide),bK h.lf h.ap (by decide) g,o,h.ro,hf,ar h.gr g (fun y e=>Ql hB (World.ownsRow.lt h.ap y e).1)⟩
theorem AlT.cut {nb:Nat} {vL vL' vA:Value} {X:List Rv} {L':List Se} (h:AlT w wr B nb vr vf vL vA X F L A) (o:eG w' B vL' L') (g:wr.grownBy w' vL.ownBlock) (hr:∀ i,i<L'.length→(L'.getD i Se.none).ro<X.length) (hf:L'.length+A.length≤64) (hB:w.heap.size≤B):AlS w w' B nb vr vf vL' vA X F L' A:=⟨h.tb.block h.lf g (by decide) (by decide) (by decide),tf h.bx h.lf g (by decide),o,bK h.ap h.lf (by decide) g,hr,hf,ar h.gr g (fun y e=>Ql hB (World.ownsRow.lt h.lf y e).1)⟩
def sA:Value→Nat
 | .slice _ n _=>n
 | _=>0
def du (R:List Rw) (fs:List Fe) (k:Int):List Fe×List Se:=jF R (cx R (aq R fs) k).length (aq R fs) (cx R (aq R fs) k) []
theorem l8 {n:Nat} (h:L≠[]):jF R (n+1) F L A=jF R n (aG R F (L.getD (cw R F L) Se.none)) (L.eraseIdx (cw R F L)) (A++[L.getD (cw R F L) Se.none]):=by
 rw[jF,if_neg h]
def fG (w:World) (r n:Int) (cd:Int→Hd×List Pt) (ts:List Th) (fs:List Fe) (k:Int) (e:Ending) (w':World):Prop:=∃ p m c p' m' c',e=.returned (.tuple #[.slice p m c,.slice p' m' c',.int .i64 (bgE r n cd ts fs k)])∧w.grownBy w' none∧(bgE r n cd ts fs k≠0→m=0∧p=none∧m'=0∧p'=none∧c=0∧c'=0)∧∀ R,r=0→1≤k∧k≤5→bw n cd ts fs=some R→aQ w' w.heap.size (.slice p m c) (bu fs R (du R fs k).1)∧bF w' w.heap.size (.slice p' m' c') ((du R fs k).2.map Se.s)
theorem Az {X:List Rv} {p:Nat} (h:∀ i,i<L.length→(L.getD i Se.none).ro<X.length):∀ i,i<(L.eraseIdx p).length→((L.eraseIdx p).getD i Se.none).ro<X.length:=fun i hi=>by
 rw[aB hi]
 have hm:(L.eraseIdx p)[i]∈L:=(List.eraseIdx_sublist L p).mem (List.getElem_mem hi)
 obtain⟨j,hj,e⟩:=List.mem_iff_getElem.1 hm
 have:=h j hj
 rw[aB hj,e] at this
 exact this
theorem EZ {X:List Rv} (h:∀ e∈L,e.ro<X.length):∀ i,i<L.length→(L.getD i Se.none).ro<X.length:=fun i hi=>by rw[aB hi];exact h _ (List.getElem_mem hi)
theorem zW (bv vt vf:Value) (r n:Int) (cd:Int→Hd×List Pt) (ts:List Th) (fs:List Fe) (k:Int) (w:World) (I:LIn w bv vt vf r n cd ts fs):Calls Tryz.prog 15 #[bv,vt,vf,.int .i64 k] w (fG w r n cd ts fs k):=by
 obtain⟨i0,hi,hz0,hz1,hz2⟩:=info_parts Tryz.linfoD
 obtain⟨pt,ct,rfl⟩:=I.things.form
 obtain⟨pf,cf,rfl⟩:=I.feats.form
 have HBg:=mI bv _ _ r n cd ts fs k w I
 unfold iO tbv at HBg
 have HI:Hid (LIn w bv (.slice pt ts.length ct) (.slice pf fs.length cf) r n cd ts fs):=I
 clear I
 go_enter Tryz.func15,Tryz.ntmps15
 go_wp2_with fail
 refine HBg.mono ?_
 rintro e2 w2 ⟨p1,m1,c1,p2,m2,c2,p3,m3,c3,rfl,g2,h2⟩
 obtain⟨q,hq⟩:=Qe (bgE r n cd ts fs k)
 have Hq:Hid (q=bgE r n cd ts fs k):=hq
 rw[←hq]
 obtain⟨V,hV⟩:=Qe (w2.alloc (.cells #[.slice p1 m1 c1,.slice p2 m2 c2] 125))
 have HGV:Hid (w.grownBy V none):=by rw[hV];exact al g2 _
 have HBt:Hid (TbB V w2.heap.size (.slice p1 m1 c1) (.slice p2 m2 c2)):=by rw[hV];exact ak _ _ _
 have H2:Hid (∀ R,r=0→1≤k∧k≤5→bw n cd ts fs=some R→∃ X,rws X=R∧TbO V w.heap.size (.slice p1 m1 c1) (.slice p2 m2 c2) X (aq R fs)∧(∀ x∈X,1≤x.r.nu∧x.r.nu≤(fs.length:Int))∧eG V w.heap.size (.slice p3 m3 c3) (cx R (aq R fs) k)):=fun R a b c=>by
  obtain⟨X,x1,x2,x3,x4⟩:=h2 R a b c
  have g:=World.grownBy_alloc w2 (.cells #[.slice p1 m1 c1,.slice p2 m2 c2] 125) none
  exact⟨X,x1,by rw[hV];exact x2.grow g,x3,by rw[hV];exact aw x4 g⟩
 have Hw2:Hid (w.heap.size≤w2.heap.size):=g2.size
 clear HBg g2 h2 hq
 go_upto_region 2 with fail
 rw[←hV]
 obtain⟨nb,hnb⟩:=Qe (w2.heap.size)
 rw[←hnb] at HBt Hw2 ⊢
 clear hV hnb
 by_cases hq0:q=0
 ·have e1:(q != 0)=false:=by simpa using hq0
  obtain⟨hr0,hk0,R,hR⟩:=jy (Hq.out.symm.trans hq0)
  obtain⟨X,hX,hT,hnu,hS⟩:=H2.out R hr0 hk0 hR
  have HRL:Hid (rws X=R∧bw n cd ts fs=some R∧bgE r n cd ts fs k=0):=⟨hX,hR,Hq.out.symm.trans hq0⟩
  obtain⟨L0,hL0⟩:=Qe (cx R (aq R fs) k)
  have hLl:L0.length≤64:=by rw[hL0,←hX];exact tt (fun x hx=>(hT.parts x hx).2) hT.few
  have hro:∀ e∈L0,e.ro<X.length:=fun e he=>by rw[hL0] at he;have:=DG he;rwa [←hX,cQ] at this
  rw[←hL0] at hS
  have HA0:Hid (AlS w V w.heap.size nb (.slice p1 m1 c1) (.slice p2 m2 c2) (.slice p3 m3 c3) (.slice none 0 0) X (aq R fs) L0 []):=⟨hT,HBt.out,hS,az.Own.nil _ _ _ _,EZ hro,by simpa using hLl,HGV.out⟩
  have Hall:Hid (du R fs k=jF (rws X) L0.length (aq R fs) L0 []):=by show _=_;unfold du;rw[hL0,hX]
  have Hnu:Hid (∀ x∈X,1≤x.r.nu∧x.r.nu≤(fs.length:Int)):=hnu
  obtain⟨F0,hF0⟩:=Qe (aq R fs)
  rw[←hF0] at HA0 Hall
  clear hq0 hr0 hk0 hR hX hT hnu hS H2 hL0 hLl hro hF0 HBt
  go_wp2_with fail
  go_loopw [12,14,15] (fun vL vA _ wr=>∃ (vf':Value) (F:List Fe) (L A:List Se),Hid (AlS w wr w.heap.size nb (.slice p1 m1 c1) vf' vL vA X F L A)∧Hid (jF (rws X) L.length F L A=jF (rws X) L0.length F0 L0 [])) (fun vL _ _ _=>sA vL)
  case atStart=>exact⟨_,F0,L0,[],HA0.out,rfl⟩
  case round =>
   clear HA0
   obtain⟨vf',F,L,A,HS,HE⟩:=hrel
   obtain⟨U,hU⟩:=Qe (wr)
   subst hU
   obtain⟨pL,cL,rfl⟩:=HS.out.lf.form
   obtain⟨pA,cA,rfl⟩:=HS.out.ap.form
   rw[List.length_map] at HS ⊢
   obtain⟨pF,cF,rfl⟩:=az.Own.form HS.out.tb.fs
   by_cases hlt:0<L.length
   ·have hne:L≠[]:=List.length_pos_iff.1 hlt
    have HNx:=yo _ _ (.slice pL L.length cL) X F L U HS.out.tb.at (az.Own.at HS.out.lf) HS.out.ro (by have:=HS.out.fw;omega)
    obtain⟨p,hp⟩:=Qe (cw (rws X) F L)
    have hpl:p<L.length:=by rw[hp];exact nE hne
    have HStp:Hid (jF (rws X) L.length F L A=jF (rws X) (L.length - 1) (aG (rws X) F (L.getD p Se.none)) (L.eraseIdx p) (A++[L.getD p Se.none])):=by
     show _=_
     obtain⟨m,hm⟩:∃ m,L.length=m+1:=⟨L.length - 1,by omega⟩
     rw[hm,l8 hne,←hp]
     rfl
    rw[←hp] at HNx
    unfold tbv at HNx
    obtain⟨a0,a1⟩:=bP HS.out.bx
    have hlt':(0:Int)<(L.length:Int):=by omega
    have Hpl:Hid (p<L.length):=hpl
    clear hp hne hlt hpl
    go_wp2_with fail
    refine HNx.mono ?_
    rintro e4 w4 ⟨rfl,g4⟩
    have HS4:Hid (AlS w w4 w.heap.size nb (.slice p1 m1 c1) (.slice pF F.length cF) (.slice pL L.length cL) (.slice pA A.length cA) X F L A):=HS.out.grow g4
    obtain⟨g,off,cap,e1,RR⟩:=SeAt.there (az.Own.at HS4.out.lf) Hpl.out
    cases e1
    obtain⟨g',cap',e',hgB,-,-,-,-⟩:=cH HS4.out.lf (Nat.lt_of_le_of_lt (Q0 _) Hpl.out)
    cases e'
    obtain⟨e,he⟩:=Qe (L.getD p Se.none)
    have Hro:Hid (e.ro<X.length):=by show e.ro<X.length;rw[he];exact HS4.out.ro p Hpl.out
    rw[←he] at RR HStp
    simp only[Nat.zero_add] at RR
    obtain⟨t0,t1⟩:=bP HS4.out.bx
    obtain⟨s0,s1,s2,s3,s4,s5,s6,s7,s8,s9,s10⟩:=ft RR
    have C1:=jC _ _ X F e w4.drew (HS4.out.tb.at.keep (ai _)) Hro.out
    unfold tbv sev at C1
    have HBw:Hid (w.heap.size≤w4.heap.size):=HS4.out.gr.size
    have hpl':(p:Int)<(L.length:Int):=Int.ofNat_lt.2 Hpl.out
    have hwk:=aK (k:=p) (Ql (Nat.le_of_lt Hpl.out) (by have:=HS4.out.fw;omega))
    have He:Hid (e=L.getD p Se.none):=he
    have Hgn:Hid (some g≠some nb):=fun q=>dv HS4.out.lf HS4.out.bx (by decide) (q.symm.trans rfl)
    clear HNx g4 RR he a0 a1
    go_upto_region 7 with fail
    refine wp_region_held_drew (S:=fun w'=>w4.grownBy w' (some nb)) (by kernel_rfl) (aX _ _) (fun hHeld=>?_)
    refine QZ 1 rfl ?_
    go_frame
    refine QZ 2 rfl ?_
    go_frame
    refine QZ 3 rfl ?_
    go_frame
    refine QT 4 rfl (by intro w0 hSw;have s0:=hSw.cell s0 Hgn.out;have s1:=hSw.cell s1 Hgn.out;have s2:=hSw.cell s2 Hgn.out;have s3:=hSw.cell s3 Hgn.out;have s4:=hSw.cell s4 Hgn.out;have s5:=hSw.cell s5 Hgn.out;have s6:=hSw.cell s6 Hgn.out;have s7:=hSw.cell s7 Hgn.out;have s8:=hSw.cell s8 Hgn.out;have s9:=hSw.cell s9 Hgn.out;have s10:=hSw.cell s10 Hgn.out;go_simp;try with_reducible rfl) ?_
    go_frame
    refine QR 0 rfl (fun K9 hK=>?_)
    go_simp
    refine hK.out _ _ (by assumption) (fun hHeld3=>?_)
    clear hK K9
    (try go_frame)
    refine QR 5 rfl (fun K hK=>?_)
    go_simp
    go_at_call 69
    refine(C1).mono ?_
    rintro e5 w5 ⟨v5,rfl,o5,g5⟩
    obtain⟨p6,c6,rfl⟩:=o5.form
    have HG5:Hid (w4.grownBy w5 none):=ae (ai _) g5
    have HS5:Hid (AlS w w5 w.heap.size nb (.slice p1 m1 c1) (.slice pF F.length cF) (.slice (some ⟨g,0,none⟩) L.length cL) (.slice pA A.length cA) X F L A):=HS4.out.grow HG5.out
    have HO5:Hid (aQ w5 w.heap.size (.slice p6 (aG (rws X) F e).length c6) (aG (rws X) F e)):=aP o5 HBw.out
    clear C1 o5 g5 HS4
    refine hK.out _ _ (bZ HG5.out _) (fun hHeld2=>?_)
    clear hK K
    (try go_frame)
    refine QR 6 rfl (fun K9 hK=>?_)
    refine wp_store_row 125 (.tmp 11) (.tmp 39) rfl nb #[.slice p1 m1 c1,.slice p6 (aG (rws X) F e).length c6] rfl rfl 125 _ HS5.out.bx (by kernel_rfl) rfl (by simp[Value.oneCell']) ?_
    refine hK.out _ _ (ae (bZ HG5.out _) (nV _ _ _)) (fun hHeld4=>?_)
    clear hK K9
    (try go_frame)
    refine QD ?_
    have HS6:Hid (AlS w (w5.setRow nb #[.slice p1 m1 c1,.slice p6 (aG (rws X) F e).length c6]) w.heap.size nb (.slice p1 m1 c1) (.slice p6 (aG (rws X) F e).length c6) (.slice (some ⟨g,0,none⟩) L.length cL) (.slice pA A.length cA) X (aG (rws X) F e) L A):=HS5.out.stored HO5.out (jG _ _ _) Hw2.out
    obtain⟨Y,hY⟩:=Qe (w5.setRow nb #[.slice p1 m1 c1,.slice p6 (aG (rws X) F e).length c6])
    rw[←hY] at HS6 ⊢
    obtain⟨F',hF'⟩:∃ F',F'=aG (rws X) F e:=⟨_,rfl⟩
    rw[←hF'] at HS6 HStp
    clear hHeld hHeld2 hHeld3 hHeld4 HS5 HO5 HG5 hY hF' s0 s1 s2 s3 s4 s5 s6 s7 s8 s9 s10 t0 t1 Hgn HBw
    obtain⟨g2,off2,cap2,e2,RR⟩:=SeAt.there (az.Own.at HS6.out.lf) Hpl.out
    cases e2
    rw[←He.out] at RR
    simp only[Nat.zero_add] at RR
    obtain⟨s0,s1,s2,s3,s4,s5,s6,s7,s8,s9,s10⟩:=ft RR
    have HAp:Hid (Y.ownsRow w.heap.size 64 10 (.slice pA A.length cA) A.length (sdR.cs (A.map Se.s))):=by have o:Y.ownsRow w.heap.size 64 10 (.slice pA A.length cA) (A.map Se.s).length (sdR.cs (A.map Se.s)):=HS6.out.ap;rw[List.length_map] at o;exact o
    have HLn:Hid (A.length+1≤maxLen∧(A.length+1)*56≤140737488355328):=ge (by have:=HS6.out.fw;omega)
    have HYs:Hid (w.heap.size≤Y.heap.size):=HS6.out.gr.size
    have HM:Hid (p+(L.length - (p+1))<L.length):=by have:=Hpl.out;show _<_;omega
    have HEl:Hid ((L.eraseIdx p).length=L.length - 1):=List.length_eraseIdx_of_lt Hpl.out
    obtain⟨D,hD⟩:=Qe (A.map Se.s)
    have HD:Hid (D=A.map Se.s):=hD
    rw[←hD] at HAp
    clear RR hD HS
    go_wp2_with (at_builtin;refine bE (by rfl) (.tmp 40) (.tmp 46) 30 rfl w.heap.size 64 i0 _ 10 56 Tryz.underlying30 hi hz0 hz1 hz2 rfl (by decide) _ A.length (sdR.cs D) rfl (World.ownsRow.alloc HAp.out _) _ 1 (sdc e.s) rfl (mU Y e.s) (fz _) HLn.out.1 HLn.out.2 (by rw[World.size_alloc];exact Nat.le_succ_of_le HYs.out) ?_;intro v8 w8 o8 g8 _;have HO8:Hid _:=o8;have HG8:Hid _:=g8;clear o8 g8)
    have HS8:Hid (AlT w w8 w.heap.size nb (.slice p1 m1 c1) (.slice p6 F'.length c6) (.slice (some ⟨g,0,none⟩) L.length cL) v8 X F' L (A++[e])):=HS6.out.taken (by rw[List.map_append,←HD.out];exact az.more HO8.out (by rw[HD.out,List.length_map])) (ae (bZ (World.grownBy_alloc Y _ none) _) HG8.out) (by rw[Qa];have:=HS6.out.fw;simp only[List.length_cons,List.length_nil];omega) (Qj _)
    have C2:=ta w.heap.size g cL p (p+1) L w8 HS8.out.lf (Nat.lt_succ_self _) Hpl.out
    simp only[Int.natCast_add,Int.cast_ofNat_Int] at C2
    refine C2.mono ?_
    rintro e9 w9 ⟨rfl,o9,g9⟩
    rw[←List.eraseIdx_eq_take_drop_succ] at o9
    have HS9:Hid (AlS w w9 w.heap.size nb (.slice p1 m1 c1) (.slice p6 F'.length c6) (.slice (some ⟨g,0,none⟩) (p+(L.length - (p+1))) cL) v8 X F' (L.eraseIdx p) (A++[e])):=HS8.out.cut o9 g9 (Az HS8.out.ro) (by rw[HEl.out,Qa];have:=HS6.out.fw;have:=Hpl.out;simp only[List.length_cons,List.length_nil];omega) (Qj _)
    clear C2 o9 g9 HO8 HG8 HAp HS6 HS8
    go_wp2_with fail
    go_roundw
    case rel=>exact⟨_,F',L.eraseIdx p,A++[e],HS9.out,by show _=_;rw[HEl.out,←HStp.out];exact HE.out⟩
    case measure=>exact HM.out
   ·obtain rfl:L=[]:=List.length_eq_zero_iff.1 (by omega)
    have HF:Hid (du R fs k=(F,A)):=by show _=_;rw[Hall.out,←HE.out];rfl
    have HCa:=nT _ _ _ X F fs U HS.out.tb.at (HI.out.feats.keep HS.out.gr) (fun i hi=>As Hnu.out hi) (HI.out.few (jy HRL.out.2.2).1 (jy HRL.out.2.2).2.2.choose_spec)
    unfold tbv at HCa
    obtain⟨t0,t1⟩:=bP HS.out.bx
    clear hlt HE Hall
    go_wp2_with fail
    refine HCa.mono ?_
    rintro e4 w4 ⟨v4,rfl,o4,g4⟩
    obtain⟨p5,c5,rfl⟩:=o4.form
    have HZ:Hid (aQ w4 w.heap.size (.slice p5 (bu fs (rws X) F).length c5) (bu fs (rws X) F)∧bF w4 w.heap.size (.slice pA A.length cA) (A.map Se.s)∧w.grownBy w4 none):=⟨aP o4 HS.out.gr.size,HS.out.ap.grow g4,ae HS.out.gr g4⟩
    clear o4 g4 HCa t0 t1 HS
    go_wp2_with fail
    refine bodyPost_ret (v:=.tuple #[.slice p5 (bu fs (rws X) F).length c5,.slice pA A.length cA,.int .i64 0]) (by simp[results,Tryz.results15,go_sem]) rfl ?_
    refine⟨_,_,_,_,_,_,by rw[HRL.out.2.2],HZ.out.2.2,fun h=>absurd HRL.out.2.2 h,fun R' _ _ a=>?_⟩
    rw[HRL.out.2.1] at a
    cases a
    rw[HF.out,←HRL.out.1]
    exact⟨HZ.out.1,HZ.out.2.1⟩
 ·have e1:(q != 0)=true:=by simpa using hq0
  have Hq0:Hid (q≠0):=hq0
  clear hq0
  go_wp2_with fail
  refine bodyPost_ret (v:=.tuple #[.slice none 0 0,.slice none 0 0,.int .i64 q]) (by simp[results,Tryz.results15,go_sem]) rfl ?_
  exact⟨none,0,0,none,0,0,by rw[←Hq.out],HGV.out,fun _=>⟨rfl,rfl,rfl,rfl,rfl,rfl⟩,fun R a b c=>absurd (by rw[Hq.out,a];exact ri c b) Hq0.out⟩
open Go.Shelf
def inS (a b:Se):Prop:=a.ro<b.ro∨a.ro=b.ro∧a.s.pl≤b.s.pl
set_option maxHeartbeats 2000000
theorem pG (a0 a1 a2 a3 a4 a5 a6:Int) (s:ByteArray) (b0 b1 b2 b3 b4 b5 b6:Int) (t:ByteArray) (w:World):(Op.equalIn 9999 62 (.agg #[.int .u8 a0,.int .u8 a1,.int .u8 a2,.int .i64 a3,.int .u8 a4,.int .u8 a5,.int .u8 a6,.string s]) (.agg #[.int .u8 b0,.int .u8 b1,.int .u8 b2,.int .i64 b3,.int .u8 b4,.int .u8 b5,.int .u8 b6,.string t])).run Tryz.prog w=.ok (bV (⟨a0,a1,a2,a3,a4,a5,a6,s⟩:Pt) ⟨b0,b1,b2,b3,b4,b5,b6,t⟩) w:=by
 unfold bV
 have hS:Tryz.prog.underlying 62=some (.struct (Tryz.prog.fieldsOf 62)):=by kernel_rfl
 have hp:Tryz.prog.stoodInHeld 62=false:=by kernel_rfl
 have u3:=Tryz.underlying3
 have i3:=Tryz.isAgg3
 have z3:=Tryz.sizeOf3
 have u9:=Tryz.underlying9
 have i9:=Tryz.isAgg9
 have z9:=Tryz.sizeOf9
 have u23:=Tryz.underlying55
 have i23:=Tryz.isAgg55
 have z23:=Tryz.sizeOf55
 have u24:=Tryz.underlying56
 have i24:=Tryz.isAgg56
 have z24:=Tryz.sizeOf56
 have u25:=Tryz.underlying57
 have i25:=Tryz.isAgg57
 have z25:=Tryz.sizeOf57
 have u26:=Tryz.underlying58
 have i26:=Tryz.isAgg58
 have z26:=Tryz.sizeOf58
 have u27:=Tryz.underlying59
 have i27:=Tryz.isAgg59
 have z27:=Tryz.sizeOf59
 have u28:=Tryz.underlying60
 have i28:=Tryz.isAgg60
 have z28:=Tryz.sizeOf60
 rw[show (9999:Nat)=9998+1 from rfl,run_equalIn_agg w 9998 62 _ _ hS hp]
 simp only[Program.fieldsOf,Tryz.underlying62]
 go_simp
 by_cases h0:a0=b0
 case neg=>simp[h0]
 simp only[h0]
 by_cases h1:a1=b1
 case neg=>simp[h1]
 simp only[h1]
 by_cases h2:a2=b2
 case neg=>simp[h2]
 simp only[h2]
 by_cases h3:a3=b3
 case neg=>simp[h3]
 simp only[h3]
 by_cases h4:a4=b4
 case neg=>simp[h4]
 simp only[h4]
 by_cases h5:a5=b5
 case neg=>simp[h5]
 simp only[h5]
 by_cases h6:a6=b6
 case neg=>simp[h6]
 simp only[h6]
 by_cases h7:s=t
 case neg=>simp[h7];exact fun e=>h7 (fN e)
 simp[h7]
def lO (a b:Sd):Bool:=decide (a.th=b.th) && (decide (a.pl=b.pl) && bV a.wh b.wh)
theorem lx {a b:Sd}:lO a b=true↔a=b:=by
 rcases a with ⟨a1,a2,a3⟩
 rcases b with ⟨b1,b2,b3⟩
 unfold lO
 constructor
 ·intro h
  simp only[Bool.and_eq_true,decide_eq_true_eq] at h
  obtain⟨h1,h2,h3⟩:=h
  rw[h1,h2]
  by_cases q:a3=b3
  ·rw[q]
  ·rw[nF q] at h3;cases h3
 ·intro h
  injection h with h1 h2 h3
  simp[h1,h2,yi h3]
theorem uw (x y:Sd) (w:World):(Op.equalIn 10000 64 (.agg (sdc x).toArray) (.agg (sdc y).toArray)).run Tryz.prog w=.ok (lO x y) w:=by
 unfold lO
 have hS:Tryz.prog.underlying 64=some (.struct (Tryz.prog.fieldsOf 64)):=by kernel_rfl
 have hp:Tryz.prog.stoodInHeld 64=false:=by kernel_rfl
 have u3:=Tryz.underlying3
 have i3:=Tryz.isAgg3
 have z3:=Tryz.sizeOf3
 have iA:=Tryz.isAgg62
 have zA:=Tryz.sizeOf62
 have h4:=pG x.wh.wn x.wh.vb x.wh.wm x.wh.ct x.wh.su x.wh.tr x.wh.mr x.wh.nm y.wh.wn y.wh.vb y.wh.wm y.wh.ct y.wh.su y.wh.tr y.wh.mr y.wh.nm
 rw[show (10000:Nat)=9999+1 from rfl,run_equalIn_agg w 9999 64 _ _ hS hp]
 simp only[Program.fieldsOf,Tryz.underlying64,sdc]
 go_simp
 by_cases hc:x.th=y.th
 case neg=>simp[hc]
 simp only[hc]
 by_cases ho:x.pl=y.pl
 case neg=>simp[ho]
 simp only[ho,if_true]
 show (if bV x.wh y.wh=false then Result.ok false w else Result.ok true w)=Result.ok (true && (true && bV x.wh y.wh)) w
 cases bV x.wh y.wh <;> rfl
def Ai (w:World) (r n:Int) (cd:Int→Hd×List Pt) (ts:List Th) (fs:List Fe) (S:List Sd) (e:Ending) (w':World):Prop:=∃ p,e=.returned (.tuple #[.int .i64 p,.int .i64 (lkE r n cd ts fs S)])∧w.grownBy w' none∧(lkE r n cd ts fs S≠0→p=0)∧∀ R L,r=0→bw n cd ts fs=some R→bn R S []=some L→if L=[] then p=-1 else ∃ L':List Se,L'.Perm L∧L'.Pairwise inS∧p=Lib.idxBy lO S (L'.getD (cw R (aq R fs) L') Se.none).s
theorem Fl (B:cG ok w b es p) (c:Int):(atC p es c).2.length≤4:=by
 unfold atC
 split
 ·split
  ·rename_i e he
   exact B.parts e (Qm he)
  ·exact Q0 _
 ·exact Q0 _
theorem kQ.of (B:cG ok w b es p):kQ w (.pointer (some ⟨b,0,none⟩)) (es.length:Int) (atC p es):=by
 refine⟨fun X g=>?_,fun X t g=>⟨_,og ok b es p t X (B.keep g)⟩,Fl B⟩
 exact(CZ b es.length (B.keep g).lies.len p X (B.keep g).lies.flags).mono fun e w' q=>⟨q.1,q.2.1⟩
theorem LIn.of' (B:cG ok w b es p) (T:thR.At w vt ts) (F:feR.At w vf fs):LIn w (.pointer (some ⟨b,0,none⟩)) vt vf (bg p ts.length) (es.length:Int) (atC p es) ts fs:=by
 obtain⟨q,c,rfl⟩:=T.form
 refine⟨fun X g=>oZ ok b es p q ts.length c X (B.keep g),fun h=>⟨kQ.of B,?_⟩,T,F⟩
 unfold bg at h
 split at h
 ·cases h
 ·omega
theorem LIn.of (B:cG ok w b es p) (T:thR.At w vt ts) (F:feR.At w vf fs) (_:fs.length≤4096):LIn w (.pointer (some ⟨b,0,none⟩)) vt vf (bg p ts.length) (es.length:Int) (atC p es) ts fs:=LIn.of' B T F
theorem LIn.no (B:kI w v) (T:thR.At w vt ts) (F:feR.At w vf fs):LIn w v vt vf 1 0 (fun _=>(Hd.none,[])) ts fs:=by
 obtain⟨q,c,rfl⟩:=T.form
 exact⟨fun X g=>sN v q ts.length c X (B.keep g),fun h=>absurd h (by decide),T,F⟩
def fi (cd:Int→Hd×List Pt):List (Th×Fe)→Nat→List Rw
 | [],_=>[]
 | (t,_) :: r,i=>if t.place=4 then ⟨(i:Int)+1,t.stamp,(cd t.card).1,(cd t.card).2⟩ :: fi cd r (i+1) else fi cd r (i+1)
theorem iv {r:List (Th×Fe)} (h:¬t.place=4):fi cd ((t,f) :: r) i=fi cd r (i+1):=by
 rw[fi,if_neg h]
theorem eK {r:List (Th×Fe)} {i:Nat} (h:t.place=4):fi cd ((t,f) :: r) i=⟨(i:Int)+1,t.stamp,(cd t.card).1,(cd t.card).2⟩ :: fi cd r (i+1):=by
 rw[fi,if_pos h]
theorem lF {n:Int} {cd:Int→Hd×List Pt}:∀ (l:List (Th×Fe)) (i:Nat) (acc A:List Rw),dz n cd l i acc=some A→A=acc++fi cd l i∧∀ x∈l,x.1.place=4→bi x.1 x.2=true
 | [],i,acc,A,h=>by
  simp only[dz,Option.some.injEq] at h
  subst h
  exact⟨(List.append_nil _).symm,fun x hx=>by cases hx⟩
 | (t,f) :: r,i,acc,A,h=>by
  unfold dz at h
  split at h
  ·cases h
  ·split at h
   ·rename_i hp
    obtain⟨e,q⟩:=lF r (i+1) acc A h
    refine⟨?_,fun x hx h4=>?_⟩
    ·rw[e,iv hp]
    ·rcases List.mem_cons.1 hx with rfl | hx
     ·exact absurd h4 hp
     ·exact q x hx h4
   ·rename_i hp
    have hp':t.place=4:=Decidable.of_not_not hp
    split at h
    ·cases h
    ·rename_i hm
     split at h
     ·cases h
     ·obtain⟨e,q⟩:=lF r (i+1) _ A h
      refine⟨?_,fun x hx h4=>?_⟩
      ·rw[e,eK hp',List.append_assoc,List.singleton_append]
      ·rcases List.mem_cons.1 hx with rfl | hx
       ·have h2:¬bi t f=false:=fun q=>hm (Or.inr q)
        cases h3:bi t f with
        | true=>rfl
        | false=>exact absurd h3 h2
       ·exact q x hx h4
theorem kV {n:Int} {cd:Int→Hd×List Pt}:∀ (l l':List (Th×Fe)) (i:Nat) (acc:List Rw),l.length=l'.length→(∀ (j:Nat) t f t' f',l[j]?=some (t,f)→l'[j]?=some (t',f')→t=t'∧(t.place=4→bi t f=bi t f'))→dz n cd l i acc=dz n cd l' i acc
 | [],[],_,_,_,_=>rfl
 | [],_ :: _,_,_,h,_=>by cases h
 | _ :: _,[],_,_,h,_=>by cases h
 | (t,f) :: r,(t',f') :: r',i,acc,h,q=>by
  obtain⟨rfl,q0⟩:=q 0 t f t' f' rfl rfl
  have q1:∀ (j:Nat) a b c d,r[j]?=some (a,b)→r'[j]?=some (c,d)→a=c∧(a.place=4→bi a b=bi a d):=fun j a b c d h1 h2=>q (j+1) a b c d h1 h2
  have hl:r.length=r'.length:=by simpa using h
  unfold dz
  rw[kV r r' (i+1) acc hl q1,kV r r' (i+1) _ hl q1]
  by_cases hp:t.place=4
  ·rw[q0 hp]
  ·simp only[if_pos hp]
theorem vG {cd:Int→Hd×List Pt}:∀ (l:List (Th×Fe)) (i:Nat),(∀ r∈fi cd l i,(i:Int)<r.nu∧r.nu≤(i:Int)+l.length)∧(fi cd l i).Pairwise fun a b=>a.nu<b.nu
 | [],i=>⟨fun r h=>(by cases h),List.Pairwise.nil⟩
 | (t,f) :: l,i=>by
  obtain⟨h1,h2⟩:=vG (cd:=cd) l (i+1)
  simp only[List.length_cons]
  by_cases hp:t.place=4
  ·rw[eK hp]
   refine⟨fun r hr=>?_,List.Pairwise.cons (fun r hr=>?_) h2⟩
   ·rcases List.mem_cons.1 hr with rfl | hr
    ·exact⟨by show (i:Int)<(i:Int)+1;omega,by show (i:Int)+1≤_;omega⟩
    ·have:=h1 r hr;omega
   ·have:=h1 r hr
    show (i:Int)+1<r.nu
    omega
  ·rw[iv hp]
   exact⟨fun r hr=>by have:=h1 r hr;omega,h2⟩
theorem xK {cd:Int→Hd×List Pt}:∀ (l:List (Th×Fe)) (i j:Nat) (t:Th) (f:Fe),l[j]?=some (t,f)→t.place=4→∃ r∈fi cd l i,r.nu=(i:Int)+j+1
 | [],i,j,t,f,h,_=>by simp at h
 | (t',f') :: l,i,0,t,f,h,h4=>by
  simp at h
  obtain⟨rfl,rfl⟩:=h
  rw[eK h4]
  exact⟨_,List.mem_cons_self,by show (i:Int)+1=_;omega⟩
 | (t',f') :: l,i,j+1,t,f,h,h4=>by
  obtain⟨r,hr,e⟩:=xK (cd:=cd) l (i+1) j t f (by simpa using h) h4
  refine⟨r,?_,by rw[e];omega⟩
  by_cases hp:t'.place=4
  ·rw[eK hp];exact List.mem_cons_of_mem _ hr
  ·rw[iv hp];exact hr
theorem iN {cd:Int→Hd×List Pt}:∀ (l:List (Th×Fe)) (i:Nat) (r:Rw),r∈fi cd l i→∃ (j:Nat) (t:Th) (f:Fe),l[j]?=some (t,f)∧t.place=4∧r=⟨(i:Int)+j+1,t.stamp,(cd t.card).1,(cd t.card).2⟩
 | [],i,r,h=>by cases h
 | (t,f) :: l,i,r,h=>by
  by_cases hp:t.place=4
  ·rw[eK hp] at h
   rcases List.mem_cons.1 h with rfl | h
   ·exact⟨0,t,f,rfl,hp,by simp⟩
   ·obtain⟨j,a,b,h1,h2,h3⟩:=iN l (i+1) r h
    exact⟨j+1,a,b,by simpa using h1,h2,by rw[h3];simp only[Rw.mk.injEq,and_true];omega⟩
  ·rw[iv hp] at h
   obtain⟨j,a,b,h1,h2,h3⟩:=iN l (i+1) r h
   exact⟨j+1,a,b,by simpa using h1,h2,by rw[h3];simp only[Rw.mk.injEq,and_true];omega⟩
structure Tab (n:Int) (cd:Int→Hd×List Pt) (ts:List Th) (fs:List Fe) (R:List Rw):Prop where
 tab:bw n cd ts fs=some R
 len:ts.length=fs.length
 perm:R.Perm (fi cd (ts.zip fs) 0)
 nod:(R.map Rw.nu).Nodup
 nu:∀ r∈R,1≤r.nu∧r.nu≤(fs.length:Int)
 may:∀ (j:Nat) t f,ts[j]?=some t→fs[j]?=some f→t.place=4→bi t f=true
 few:R.length≤16
theorem nQ {n:Int} {cd:Int→Hd×List Pt}:∀ (l:List (Th×Fe)) (i:Nat) (acc A:List Rw),acc.length≤16→dz n cd l i acc=some A→A.length≤16
 | [],i,acc,A,h0,h=>by
  simp only[dz,Option.some.injEq] at h
  subst h
  exact h0
 | (t,f) :: r,i,acc,A,h0,h=>by
  unfold dz at h
  split at h
  ·cases h
  ·split at h
   ·exact nQ r (i+1) acc A h0 h
   ·split at h
    ·cases h
    ·rename_i hm
     split at h
     ·cases h
     ·exact nQ r (i+1) _ A (by rw[Qa,List.length_singleton];have:¬acc.length=16:=fun q=>hm (Or.inl q);omega) h
theorem dZ:(ts.zip fs)[j]?=some (t,f)↔ts[j]?=some t∧fs[j]?=some f:=by
 rw[List.getElem?_zip_eq_some]
theorem Tab.of (h:bw n cd ts fs=some R):Tab n cd ts fs R:=by
 have h':=h
 unfold bw at h
 split at h
 ·rename_i hl
  split at h
  ·rename_i acc ha
   split at h
   ·cases h
    obtain⟨e,q⟩:=lF _ _ _ _ ha
    rw[List.nil_append] at e
    have hp:(sortR acc).Perm (fi cd (ts.zip fs) 0):=by rw[←e];exact List.mergeSort_perm _ _
    obtain⟨n1,n2⟩:=vG (cd:=cd) (ts.zip fs) 0
    refine⟨h',hl,hp,?_,fun r hr=>?_,fun j t f a b c=>?_,?_⟩
    ·rw[(hp.map Rw.nu).nodup_iff]
     exact List.Pairwise.map _ (fun a b q=>by omega) n2
    ·have:=n1 r (hp.mem_iff.1 hr)
     rw[List.length_zip] at this
     omega
    ·exact q (t,f) (Qm (dZ.2 ⟨a,b⟩)) c
    ·rw[hp.length_eq,←e];exact nQ _ _ _ _ (Q0 _) ha
   ·cases h
  ·cases h
 ·cases h
theorem Tab.turn {fs':List Fe} (h:Tab n cd ts fs R) (hl:fs'.length=fs.length) (hm:∀ (j:Nat) t f,ts[j]?=some t→fs'[j]?=some f→t.place=4→bi t f=true):Tab n cd ts fs' R:=by
 refine Tab.of ?_
 have e:dz n cd (ts.zip fs') 0 []=dz n cd (ts.zip fs) 0 []:=by
  refine kV _ _ _ _ (by rw[List.length_zip,List.length_zip,hl]) fun j t f t' f' a b=>?_
  obtain⟨a1,a2⟩:=dZ.1 a
  obtain⟨b1,b2⟩:=dZ.1 b
  rw[a1] at b1
  cases b1
  exact⟨rfl,fun h4=>by rw[hm j t f a1 a2 h4,h.may j t f' a1 b2 h4]⟩
 have:=h.tab
 unfold bw at this ⊢
 rw[hl,e]
 exact this
theorem Tab.has (h:Tab n cd ts fs R) {j:Nat} {t:Th} (ht:ts[j]?=some t) (h4:t.place=4):∃ i,i<R.length∧(R.getD i Rw.none).nu=(j:Int)+1:=by
 have hj:j<ts.length:=(Qh ht).1
 obtain⟨f,hf⟩:∃ f,fs[j]?=some f:=⟨_,Qg (by rw[←h.len];exact hj)⟩
 obtain⟨r,hr,e⟩:=xK (cd:=cd) (ts.zip fs) 0 j t f (dZ.2 ⟨ht,hf⟩) h4
 obtain⟨i,hi,e2⟩:=List.getElem_of_mem (h.perm.mem_iff.2 hr)
 exact⟨i,hi,by rw[aB hi,e2,e];simp⟩
theorem Tab.from (h:Tab n cd ts fs R) {r:Rw} (hr:r∈R):∃ (j:Nat) (t:Th),ts[j]?=some t∧t.place=4∧r.nu=(j:Int)+1∧r.st=t.stamp:=by
 obtain⟨j,t,f,a,b,c⟩:=iN _ _ _ (h.perm.mem_iff.1 hr)
 exact⟨j,t,(dZ.1 a).1,b,by rw[c];simp,by rw[c]⟩
theorem jM (h:(R.map Rw.nu).Nodup) {i k:Nat} (hi:i<R.length) (hk:k<R.length) (e:(R.getD i Rw.none).nu=(R.getD k Rw.none).nu):i=k:=by
 rw[aB hi,aB hk] at e
 have h':=List.pairwise_iff_getElem.1 h
 rcases Nat.lt_trichotomy i k with q | q | q
 ·exact absurd (by rw[List.getElem_map,List.getElem_map];exact e) (h' i k (by simpa using hi) (by simpa using hk) q)
 ·exact q
 ·exact absurd (by rw[List.getElem_map,List.getElem_map];exact e.symm) (h' k i (by simpa using hk) (by simpa using hi) q)
theorem gI {fs:List Fe} {R:List Rw} {F:List Fe} (hn:(R.map Rw.nu).Nodup) (hb:∀ r∈R,1≤r.nu∧r.nu≤(fs.length:Int)):∀ m,m≤R.length→(∀ i,i<m→(iH fs R F m)[((R.getD i Rw.none).nu - 1).toNat]?=some (F.getD i Fe.none))∧∀ j:Nat,(∀ i,i<m→(R.getD i Rw.none).nu≠(j:Int)+1)→(iH fs R F m)[j]?=fs[j]?
 | 0,_=>⟨fun i h=>absurd h (Nat.not_lt_zero _),fun j _=>rfl⟩
 | m+1,h=>by
  obtain⟨q1,q2⟩:=gI (F:=F) hn hb m (by omega)
  have hbm:=hb _ (List.getElem_mem (show m<R.length by omega))
  rw[←aB (d:=Rw.none) (show m<R.length by omega)] at hbm
  rw[jq]
  refine⟨fun i hi=>?_,fun j hj=>?_⟩
  ·by_cases e:i=m
   ·subst e
    rw[List.getElem?_set_self (by rw[gY];omega)]
   ·have hbi:=hb _ (List.getElem_mem (show i<R.length by omega))
    rw[←aB (d:=Rw.none) (show i<R.length by omega)] at hbi
    have hne:(R.getD m Rw.none).nu≠(R.getD i Rw.none).nu:=fun q=>e (jM hn (by omega) (by omega) q.symm)
    rw[List.getElem?_set_ne (by omega)]
    exact q1 i (by omega)
  ·rw[List.getElem?_set_ne (by have:=hj m (by omega);omega)]
   exact q2 j fun i hi=>hj i (by omega)
theorem fY (fs:List Fe) (R:List Rw) (F:List Fe):(bu fs R F).length=fs.length:=gY fs R F _
theorem eu (R:List Rw) (fs:List Fe):(aq R fs).length=R.length:=List.length_map _
theorem Tab.pick (h:Tab n cd ts fs R) {F:List Fe} (hF:F.length=R.length):aq R (bu fs R F)=F:=by
 refine List.ext_getElem? fun i=>?_
 by_cases hi:i<R.length
 ·unfold aq
  rw[List.getElem?_map,Qg hi,Option.map_some,←aB (d:=Rw.none) hi]
  have:=(gI (F:=F) h.nod h.nu R.length (Qj _)).1 i hi
  unfold bu
  rw[List.getD_eq_getElem?_getD,this,Option.getD_some,aB (show i<F.length by omega),Qg]
 ·rw[List.getElem?_eq_none (by rw[eu];omega),List.getElem?_eq_none (by omega)]
theorem Tab.lay2 (h:Tab n cd ts fs R) (A B:List Fe):bu (bu fs R A) R B=bu fs R B:=by
 refine List.ext_getElem? fun j=>?_
 have a1:=gI (fs:=bu fs R A) (F:=B) h.nod (by rw[fY];exact h.nu) R.length (Qj _)
 have a2:=gI (fs:=fs) (F:=B) h.nod h.nu R.length (Qj _)
 have a3:=gI (fs:=fs) (F:=A) h.nod h.nu R.length (Qj _)
 by_cases q:∃ i,i<R.length∧(R.getD i Rw.none).nu=(j:Int)+1
 ·obtain⟨i,hi,e⟩:=q
  have e1:=a1.1 i hi
  have e2:=a2.1 i hi
  rw[e,show ((j:Int)+1 - 1).toNat=j by omega] at e1 e2
  exact e1.trans e2.symm
 ·have hq:∀ i,i<R.length→(R.getD i Rw.none).nu≠(j:Int)+1:=fun i hi e=>q ⟨i,hi,e⟩
  exact(a1.2 j hq).trans ((a3.2 j hq).trans (a2.2 j hq).symm)
def sU (F:List Fe):Prop:=∀ f∈F,fE f.ho=true∧bY f.tr=true
theorem Tab.good (h:Tab n cd ts fs R):sU (aq R fs):=fun f hf=>by
 unfold aq at hf
 obtain⟨r,hr,e⟩:=List.mem_map.1 hf
 obtain⟨j,t,a,b,c,_⟩:=h.from hr
 have hj:j<ts.length:=(Qh a).1
 have hj':j<fs.length:=by rw[←h.len];exact hj
 rw[c,show ((j:Int)+1 - 1).toNat=j by omega,aB hj'] at e
 have:=h.may j t _ a (Qg hj') b
 rw[e] at this
 unfold bi at this
 simp only[Bool.and_eq_true] at this
 exact⟨this.1.2,this.2⟩
theorem Tab.back (h:Tab n cd ts fs R) {F:List Fe} (hF:F.length=R.length) (hg:sU F):Tab n cd ts (bu fs R F) R:=by
 refine h.turn (fY _ _ _) fun j t f a b h4=>?_
 obtain⟨i,hi,e⟩:=h.has a h4
 have e1:=(gI (F:=F) h.nod h.nu R.length (Qj _)).1 i hi
 rw[e,show ((j:Int)+1 - 1).toNat=j by omega] at e1
 have b':(iH fs R F R.length)[j]?=some f:=b
 rw[e1] at b'
 cases b'
 have hj:j<ts.length:=(Qh a).1
 have hs:=h.may j t _ a (Qg (by rw[←h.len];exact hj)) h4
 obtain⟨g1,g2⟩:=hg (F.getD i Fe.none) (by rw[aB (show i<F.length by omega)];exact List.getElem_mem _)
 unfold bi at hs ⊢
 simp only[Bool.and_eq_true] at hs ⊢
 exact⟨⟨hs.1.1,g1⟩,g2⟩
theorem yS (h:i<F.length):(aG R F e).getD i Fe.none=fp R F e i:=by
 unfold aG
 rw[aB (by simpa using h)]
 simp
theorem iC (h:e∈cx R F k):e.ro<R.length∧e.s.th=(R.getD e.ro Rw.none).nu∧∃ j,j<(R.getD e.ro Rw.none).ps.length∧e.s.pl=(j:Int)∧e.s.wh=(R.getD e.ro Rw.none).ps.getD j Pt.none∧e.s.wh.wn=5∧lay e.s.wh.vb=k:=by
 unfold cx gZ at h
 rw[List.mem_flatMap] at h
 obtain⟨i,hi,h⟩:=h
 rw[List.mem_range] at hi
 unfold j7 at h
 split at h
 ·cases h
 ·unfold eU at h
  rw[List.mem_filterMap] at h
  obtain⟨j,hj,h⟩:=h
  rw[List.mem_range] at hj
  split at h
  ·rename_i hc
   cases h
   exact⟨hi,rfl,j,hj,rfl,rfl,hc.1,hc.2⟩
  ·cases h
theorem wF (p:Pt):bV p p=true:=by unfold bV;simp
theorem AL (h:(R.map Rw.nu).Nodup) {i:Nat} (hi:i<R.length):eV R (R.getD i Rw.none).nu=some i:=by
 unfold eV
 rw[List.findIdx?_eq_some_iff_getElem]
 refine⟨hi,by rw[aB hi];simp,fun j hj q=>?_⟩
 have e:(R.getD j Rw.none).nu=(R.getD i Rw.none).nu:=by rw[aB (show j<R.length by omega)];simpa using q
 exact absurd (jM h (by omega) hi e) (by omega)
theorem oH (hn:(R.map Rw.nu).Nodup) (h:e∈cx R F k):bH R e.s=some e:=by
 obtain⟨h1,h2,j,h3,h4,h5,h6,h7⟩:=iC h
 unfold bH
 rw[h2,AL hn h1]
 simp only
 rw[if_pos]
 unfold cZ
 rw[h4,h6,show ((j:Int)).toNat=j by omega,←h5,wF,Qy (show (0:Int)≤(j:Int) by omega),Qy (show (j:Int)<((R.getD e.ro Rw.none).ps.length:Int) by omega)]
 rfl
def lg (a b:Se):Prop:=a.ro<b.ro∨a.ro=b.ro∧a.s.pl<b.s.pl
theorem EC (R:List Rw) (F:List Fe) (k:Int):(cx R F k).Pairwise lg:=by
 unfold cx gZ
 rw[List.flatMap_def,List.pairwise_flatten]
 refine⟨fun l hl=>?_,?_⟩
 ·obtain⟨i,hi,rfl⟩:=List.mem_map.1 hl
  unfold j7
  split
  ·exact List.Pairwise.nil
  ·unfold eU
   refine List.Pairwise.filterMap _ (R:=fun a b:Nat=>a<b) (fun a a' haa b hb b' hb'=>?_) List.pairwise_lt_range
   split at hb
   ·split at hb'
    ·cases hb;cases hb'
     exact Or.inr ⟨rfl,by show (a:Int)<(a':Int);omega⟩
    ·cases hb'
   ·cases hb
 ·refine List.Pairwise.map _ (R:=fun a b:Nat=>a<b) (fun a b hab=>?_) List.pairwise_lt_range
  intro x hx y hy
  have ro:∀ {i:Nat} {x:Se},x∈j7 R F k i→x.ro=i:=fun {i x} h=>by
   unfold j7 at h
   split at h
   ·cases h
   ·exact xg h
  exact Or.inl (by rw[ro hx,ro hy];exact hab)
theorem A7 {a b:Se} (hn:(R.map Rw.nu).Nodup) (ha:a∈cx R F k) (hb:b∈cx R F k) (h:¬(a.ro=b.ro∧a.s.pl=b.s.pl)):dN a b=false:=by
 obtain⟨a1,a2,_,_,_,_,_,a7⟩:=iC ha
 obtain⟨b1,b2,_,_,_,_,_,b7⟩:=iC hb
 rw[lN (fun q=>h ⟨?_,q.2⟩),a7,b7]
 ·simp
 ·exact jM hn a1 b1 (by rw[←a2,←b2];exact q.1)
theorem ti {R:List Rw}:∀ (L acc:List Se),(∀ e∈L,bH R e.s=some e)→(L.Pairwise fun a b=>dN b a=false)→(∀ a∈acc,∀ b∈L,dN b a=false)→bn R (L.map Se.s) acc=some (acc++L)
 | [],acc,_,_,_=>by simp[bn]
 | e :: L,acc,h1,h2,h3=>by
  rw[List.map_cons]
  unfold bn
  rw[h1 e List.mem_cons_self]
  simp only
  rw[if_pos (by
   unfold dV
   rw[List.all_eq_true]
   intro o ho
   rw[h3 o ho e List.mem_cons_self]
   rfl)]
  rw[List.pairwise_cons] at h2
  rw[ti L (acc++[e]) (fun x hx=>h1 x (List.mem_cons_of_mem _ hx)) h2.2 (fun a ha b hb=>by
   rcases List.mem_append.1 ha with ha | ha
   ·exact h3 a ha b (List.mem_cons_of_mem _ hb)
   ·rw[List.mem_singleton] at ha
    subst ha
    exact h2.1 b hb),List.append_assoc,List.singleton_append]
theorem sP (hn:(R.map Rw.nu).Nodup) (h:∀ e∈L,e∈cx R F k) (hp:L.Pairwise fun a b=>¬(a.ro=b.ro∧a.s.pl=b.s.pl)):bn R (L.map Se.s) []=some L:=by
 have:=ti (R:=R) L [] (fun e he=>oH hn (h e he)) (List.Pairwise.imp_of_mem (fun {a b} ha hb q=>A7 hn (h b hb) (h a ha) (fun z=>q ⟨z.1.symm,z.2.symm⟩)) hp) (fun a ha=>by cases ha)
 simpa using this
end Go.Proofs.YtjmepebbcnhalaaGreat
