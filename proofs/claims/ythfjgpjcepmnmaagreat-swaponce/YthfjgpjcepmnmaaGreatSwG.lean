/-
  
-/
import Derived.Test.YthfjgpjcepmnmaaGreatO0
import Derived.Test.YthfjgpjcepmnmaaGreatSwF
namespace Go.Proofs.YthfjgpjcepmnmaaGreat
set_option maxRecDepth 100000
set_option maxHeartbeats 4000000
open Go.RowKit

def jI (cd:Int→Hd×List Pt) (ts:List Th) (n:Int):Bool:=!dh n && (jR cd (thN ts n) && decide (0<(thN ts n).m2))
theorem ol (bv:Value) (n:Int) (cd:Int→Hd×List Pt) (t:Th) (w:World) (C:je w bv n cd) (h1:1≤t.card) (h2:t.card≤n):Calls Tryz.prog 133 #[bv,thv t] w fun e w'=>e=.returned (.bool (jR cd t))∧w.grownBy w' none:=by
 have h:=BL bv t (cd t.card).1 (cd t.card).2 0 w (fun X q=>C X t q h1 h2)
 exact h
theorem tj {ts:List Th} {h:Hp} (hm:bw ts h=true):(dh h.on=true∨ej ts h.on=true)∧(h.vb=6→ej ts h.on=true):=by
 unfold bw at hm
 split at hm
 ·rename_i h1
  simp only[Bool.and_eq_true,Bool.or_eq_true] at hm
  exact⟨hm.1,fun q=>by omega⟩
 ·split at hm
  ·exact⟨Or.inr hm,fun _=>hm⟩
  ·split at hm
   ·rename_i h3
    exact⟨Or.inl hm,fun q=>by omega⟩
   ·cases hm
structure AIn (w:World) (bv vt vf:Value) (n:Int) (cd:Int→Hd×List Pt) (ts:List Th) (F:List Fe) (s:Sd) (z:Nat) (g:Fe):Prop where
 at1:thR.At w vt ts
 at2:feR.At w vf F
 card:je w bv n cd
 hz:s.th=(z:Int)+1
 hg:F[z]?=some g
 pl:g.ho=0∨g.ho=1
 len:ts.length=F.length
 few:ts.length≤2048
 be:∀ (j:Nat) t,ts[j]?=some t→1≤t.card∧t.card≤n
theorem AIn.keep {w w':World} {bv vt vf:Value} {n:Int} {cd:Int→Hd×List Pt} {ts:List Th} {F:List Fe} {s:Sd} {z:Nat} {g:Fe} (h:AIn w bv vt vf n cd ts F s z g) (q:w.grownBy w' none):AIn w' bv vt vf n cd ts F s z g:=⟨h.at1.keep q,h.at2.keep q,h.card.keep q,h.hz,h.hg,h.pl,h.len,h.few,h.be⟩
theorem qL {F:List Fe} {s:Sd} {z:Nat} {g:Fe} (hz:s.th=(z:Int)+1) (hg:F[z]?=some g):hoN F s.th=g.ho:=by unfold hoN;rw[hz,toN,List.getD_eq_getElem?_getD,hg];rfl
theorem Fk {cd:Int→Hd×List Pt} {ts:List Th} {F:List Fe} {s:Sd} {n ho:Int} (h:s.wh.wm=1) (hh:hoN F s.th=ho) (hp:ho=0∨ho=1):iy cd ts F s n=(n == wrap64 (-1 - ho)):=by
 unfold iy
 rw[if_pos h,hh]
 rcases hp with rfl | rfl
 ·rw[show wrap64 (-1 - 0)=-1 - 0 from by unfold wrap64;omega,dB]
 ·rw[show wrap64 (-1 - 1)=-1 - 1 from by unfold wrap64;omega,dB]
theorem EU {cd:Int→Hd×List Pt} {ts:List Th} {F:List Fe} {s:Sd} {n ho:Int} (h:s.wh.wm=2) (hh:hoN F s.th=ho) (hp:ho=0∨ho=1):iy cd ts F s n=(n == wrap64 (-1 - wrap64 (1 - ho))):=by
 unfold iy
 rw[if_neg (by omega),if_pos h,hh]
 rcases hp with rfl | rfl
 ·rw[show wrap64 (1 - 0)=1 - 0 from by unfold wrap64;omega,show wrap64 (-1 - (1 - 0))=-1 - (1 - 0) from by unfold wrap64;omega,dB]
 ·rw[show wrap64 (1 - 1)=1 - 1 from by unfold wrap64;omega,show wrap64 (-1 - (1 - 1))=-1 - (1 - 1) from by unfold wrap64;omega,dB]
theorem Cj {cd:Int→Hd×List Pt} {ts:List Th} {F:List Fe} {s:Sd} {n:Int} (h1:¬s.wh.wm=1) (h2:¬s.wh.wm=2) (h:dh n=true):iy cd ts F s n=false:=by unfold iy;rw[if_neg h1,if_neg h2,if_pos h]
theorem Ci {cd:Int→Hd×List Pt} {ts:List Th} {F:List Fe} {s:Sd} {j:Nat} {t:Th} {f:Fe} {ho:Int} (h1:¬s.wh.wm=1) (h2:¬s.wh.wm=2) (h:dh ((j:Int)+1)=false) (ht:ts[j]?=some t) (hf:F[j]?=some f) (hh:hoN F s.th=ho):iy cd ts F s ((j:Int)+1)=fI s.wh (((j:Int)+1) == s.th) (jR cd t) f ho:=by
 unfold iy
 rw[if_neg h1,if_neg h2,if_neg (by rw[h];simp),qv ht,toN,hh,dB,List.getD_eq_getElem?_getD,hf]
 rfl
theorem pD (bv vt vf vl:Value) (n:Int) (cd:Int→Hd×List Pt) (ts:List Th) (F:List Fe) (s:Sd) (z:Nat) (g:Fe) (on:Int) (w:World) (I:AIn w bv vt vf n cd ts F s z g) (ho:dh on=true∨ej ts on=true):Calls Tryz.prog 153 #[ch bv vt vf vl,sdv s,.int .i64 on] w fun e w'=>e=.returned (.bool (iy cd ts F s on))∧w.grownBy w' none:=by
 obtain⟨pt,ct,rfl⟩:=I.at1.form
 obtain⟨pf,cf,rfl⟩:=I.at2.form
 obtain⟨V,hV⟩:∃ V,V=(w.alloc (.cells #[bv,.slice pt ts.length ct,.slice pf F.length cf,vl] 136)).alloc (.cells #[.int .i64 s.th,.int .i64 s.pl,.int .u8 s.wh.wn,.int .u8 s.wh.vb,.int .u8 s.wh.wm,.int .i64 s.wh.ct,.int .u8 s.wh.su,.int .u8 s.wh.tr,.int .u8 s.wh.mr,.string s.wh.nm] 40):=⟨_,rfl⟩
 have HG:Hid (w.grownBy V none):=by rw[hV];exact ak (World.grownBy_alloc _ _ none) _
 have HS:Hid (SdB V (w.heap.size+1) s):=by rw[hV];exact aP _ _ _ _
 have HC:Hid (bY V w.heap.size bv (.slice pt ts.length ct) (.slice pf F.length cf) vl):=by rw[hV];exact ae (World.grownBy_alloc _ _ none) (ai w _ _) (by simp)
 have HI:Hid (AIn V bv (.slice pt ts.length ct) (.slice pf F.length cf) n cd ts F s z g):=I.keep HG.out
 have HO:Hid (dh on=true∨ej ts on=true):=ho
 have CH:=kR bv (.slice pt ts.length ct) (.slice pf F.length cf) vl F s z g V HI.out.at2 HI.out.hg HI.out.hz (by rw[←HI.out.len];exact Nat.le_trans HI.out.few (by decide))
 unfold ch sdv at CH ⊢
 clear I ho
 go_enter Tryz.func153,Tryz.ntmps153
 go_upto_region 1 with fail
 rw[←hV]
 clear hV
 obtain⟨n0,hn0⟩:∃ n0,n0=w.heap.size:=⟨_,rfl⟩
 simp only[←hn0] at HC HS ⊢
 obtain⟨n1,hn1⟩:∃ n1,n1=n0+1:=⟨_,rfl⟩
 simp only[←hn1] at HS ⊢
 clear hn0 hn1
 obtain⟨c0,c1,c2,c3⟩:=aR HC.out
 obtain⟨s0,s1,s2,s3,s4,s5,s6,s7,s8,s9⟩:=aT HS.out
 go_wp2_with fail
 refine CH.mono ?_
 rintro e1 w1 ⟨rfl,g1⟩
 have HG1:Hid (V.grownBy w1 none):=g1
 have HC1:Hid (bY w1 n0 bv (.slice pt ts.length ct) (.slice pf F.length cf) vl):=ae g1 HC.out (by simp)
 have HS1:Hid (SdB w1 n1 s):=ae g1 HS.out (by simp)
 obtain⟨ho,hho⟩:∃ ho,ho=g.ho:=⟨_,rfl⟩
 have Hho:Hid (hoN F s.th=ho∧(ho=0∨ho=1)):=⟨by rw[hho];exact qL HI.out.hz HI.out.hg,by rw[hho];exact HI.out.pl⟩
 rw[←hho]
 clear CH g1 hho c0 c1 c2 c3 s0 s1 s2 s3 s4 s5 s6 s7 s8 s9
 obtain⟨c0,c1,c2,c3⟩:=aR HC1.out
 obtain⟨s0,s1,s2,s3,s4,s5,s6,s7,s8,s9⟩:=aT HS1.out
 by_cases m1:s.wh.wm=1
 ·have HR:Hid (iy cd ts F s on=(on == wrap64 (-1 - ho))):=Fk m1 Hho.out.1 Hho.out.2
  rw[m1] at s4
  clear m1
  go_wp2_with (go_at_call 200;refine(fg _ _).mono ?_;rintro e2 w2 ⟨rfl,q2⟩;obtain rfl:w1=w2:=q2.symm)
  go_ret
  exact⟨aJ HR.out.symm,aa HG.out HG1.out⟩
 have k1:(s.wh.wm == 1)=false:=by simpa using m1
 by_cases m2:s.wh.wm=2
 ·have HR:Hid (iy cd ts F s on=(on == wrap64 (-1 - wrap64 (1 - ho)))):=EU m2 Hho.out.1 Hho.out.2
  rw[m2] at s4
  clear m1 m2 k1
  go_wp2_with (first | (go_at_call 200;refine(fg _ _).mono ?_;rintro e2 w2 ⟨rfl,q2⟩;obtain rfl:w1=w2:=q2.symm) | (go_at_call 213;refine(sS _ _).mono ?_;rintro e2 w2 ⟨rfl,q2⟩;obtain rfl:w1=w2:=q2.symm))
  go_ret
  exact⟨aJ HR.out.symm,aa HG.out HG1.out⟩
 have k2:(s.wh.wm == 2)=false:=by simpa using m2
 have CP:=fun W=>eX on W
 cases hp:dh on with
 | true =>
  have HR:Hid (iy cd ts F s on=false):=Cj m1 m2 hp
  rw[hp] at CP
  clear m1 m2 hp
  go_wp2_with (go_at_call 132;refine(CP _).mono ?_;rintro e2 w2 ⟨rfl,q2⟩;obtain rfl:w1=w2:=q2.symm)
  go_ret
  exact⟨aJ HR.out.symm,aa HG.out HG1.out⟩
 | false =>
  obtain⟨j,t,rfl,ht,-⟩:=oW (HO.out.resolve_left (by rw[hp];simp))
  have hjl:j<ts.length:=(List.getElem?_eq_some_iff.1 ht).1
  have hjf:j<F.length:=by rw[←HI.out.len];exact hjl
  obtain⟨f,hf⟩:∃ f,F[j]?=some f:=⟨_,List.getElem?_eq_getElem hjf⟩
  have HR:Hid (iy cd ts F s ((j:Int)+1)=fI s.wh (((j:Int)+1) == s.th) (jR cd t) f ho):=Ci m1 m2 hp ht hf Hho.out.1
  have CU:∀ X,w1.grownBy X none→Calls Tryz.prog 133 #[bv,thv t] X fun e w'=>e=.returned (.bool (jR cd t))∧X.grownBy w' none:=fun X q=>ol bv n cd t X (HI.out.card.keep (aa HG1.out q)) (HI.out.be j t ht).1 (HI.out.be j t ht).2
  have CW:=fun W=>uP s.wh ho f (jR cd t) (((j:Int)+1) == s.th) W
  obtain⟨u,hu⟩:∃ u,u=jR cd t:=⟨_,rfl⟩
  obtain⟨o,hoo⟩:∃ o,o=(((j:Int)+1) == s.th):=⟨_,rfl⟩
  rw[←hu,←hoo] at HR
  simp only[←hu,←hoo] at CU CW
  have HQ:Hid (o=(((j:Int)+1) == s.th)):=hoo
  rw[hp] at CP
  have j1:((j:Int))<(ts.length:Int):=Int.ofNat_lt.2 hjl
  have j2:((j:Int))<(F.length:Int):=Int.ofNat_lt.2 hjf
  have wj:wrap64 (j:Int)=(j:Int):=EF hjl HI.out.few
  have wj2:IntKind.i64.wrap (j:Int)=(j:Int):=Ff hjl HI.out.few
  obtain⟨gT,oT,cT,eT,-⟩:=bG HI.out.at1 hjl
  injection eT with eT eT2 eT3
  clear eT2 eT3
  subst eT
  obtain⟨gF,oF,cF,eF,-⟩:=dG HI.out.at2 hjf
  injection eF with eF eF2 eF3
  clear eF2 eF3
  subst eF
  obtain⟨t0,t1,t2,t3,t4,t5,t6,t7,t8,t9,t10⟩:=bc (gh (HI.out.at1.keep HG1.out) ht)
  obtain⟨f0,f1,f2,f3,f4⟩:=cC (fW (HI.out.at2.keep HG1.out) hf)
  unfold thv at CU
  unfold pv cdv at CW
  clear m1 m2 hp ht hf hjl hjf hu hoo
  go_upto_region 8 with (go_at_call 132;refine(CP _).mono ?_;rintro e2 w2 ⟨rfl,q2⟩;obtain rfl:w1=w2:=q2.symm)
  clear CP k1 k2
  refine wp_region_held_drew (S:=fun w'=>w1.grownBy w' none) (by kernel_rfl) (ag _) (fun hHeld=>?_)
  refine QZ 0 rfl ?_
  go_frame
  refine QT 1 rfl (by intro w0 hSw;have c2:=hSw.cell c2 (by simp);go_simp;try with_reducible rfl) ?_
  go_frame
  refine QZ 2 rfl ?_
  go_frame
  refine QZ 3 rfl ?_
  go_frame
  refine QZ 4 rfl ?_
  go_frame
  refine QT 5 rfl (by intro w0 hSw;have f0:=hSw.cell f0 (by simp);have f1:=hSw.cell f1 (by simp);have f2:=hSw.cell f2 (by simp);have f3:=hSw.cell f3 (by simp);have f4:=hSw.cell f4 (by simp);go_simp;try with_reducible rfl) ?_
  go_frame
  refine QZ 6 rfl ?_
  go_frame
  refine QT 7 rfl (by intro w0 hSw;have c0:=hSw.cell c0 (by simp);go_simp;try with_reducible rfl) ?_
  go_frame
  refine QZ 8 rfl ?_
  go_frame
  refine QT 9 rfl (by intro w0 hSw;have c1:=hSw.cell c1 (by simp);go_simp;try with_reducible rfl) ?_
  go_frame
  refine QZ 10 rfl ?_
  go_frame
  refine QZ 11 rfl ?_
  go_frame
  refine QZ 12 rfl ?_
  go_frame
  refine QT 13 rfl (by intro w0 hSw;have t0:=hSw.cell t0 (by simp);have t1:=hSw.cell t1 (by simp);have t2:=hSw.cell t2 (by simp);have t3:=hSw.cell t3 (by simp);have t4:=hSw.cell t4 (by simp);have t5:=hSw.cell t5 (by simp);have t6:=hSw.cell t6 (by simp);have t7:=hSw.cell t7 (by simp);have t8:=hSw.cell t8 (by simp);have t9:=hSw.cell t9 (by simp);have t10:=hSw.cell t10 (by simp);go_simp;try with_reducible rfl) ?_
  go_frame
  refine QZ 15 rfl ?_
  go_frame
  refine QZ 16 rfl ?_
  go_frame
  refine QT 17 rfl (by intro w0 hSw;have s0:=hSw.cell s0 (by simp);go_simp;try with_reducible rfl) ?_
  go_frame
  refine QZ 18 rfl ?_
  go_frame
  rw[←HQ.out]
  refine wpAnyH_ready (rs:=[14,20]) (by kernel_rfl) (by simp) ?_
  refine AllReadyH.cons rfl (fun K9 hK=>?_) (AllReadyH.cons rfl (fun K9 hK=>?_) AllReadyH.nil)
  ·simp only[QA,QB,QC]
   go_simp
   go_at_call 133
   refine(CU _ (ag _)).mono ?_
   rintro e3 w3 ⟨rfl,g3⟩
   have HG3:Hid (w1.grownBy w3 none):=aa (ag _) g3
   refine hK.out _ _ HG3.out (fun hHeld2=>?_)
   clear hK K9
   (try go_frame)
   refine QZ 19 rfl ?_
   go_frame
   refine QR 20 rfl (fun K9 hK=>?_)
   go_simp
   refine hK.out _ _ (ak HG3.out _) (fun hHeld3=>?_)
   clear hK K9
   (try go_frame)
   obtain⟨X,hX⟩:∃ X,X=w3.alloc (.cells #[.int .i64 0,.int .u8 0,.int .u16 0,.int .i64 0,.int .i64 0,.bool false,.bool false] 283):=⟨_,rfl⟩
   rw[←hX]
   have HB1:Hid (X.heap[w3.heap.size]?=some (.cells #[.int .i64 0,.int .u8 0,.int .u16 0,.int .i64 0,.int .i64 0,.bool false,.bool false] 283 (0,0))):=by rw[hX];exact ai w3 _ _
   have HGX:Hid (w1.grownBy X none):=by rw[hX];exact ak HG3.out _
   obtain⟨n2,h2⟩:∃ n2,n2=w3.heap.size:=⟨_,rfl⟩
   have Hn2:Hid (w1.heap.size≤n2):=by rw[h2];exact HG3.out.size
   rw[←h2] at HB1 ⊢
   clear hX h2
   have z0:=(ac HB1.out 0).trans (show _=some (.int .i64 0) from rfl)
   have z1:=(ac HB1.out 1).trans (show _=some (.int .u8 0) from rfl)
   have z2:=(ac HB1.out 2).trans (show _=some (.int .u16 0) from rfl)
   have z3:=(ac HB1.out 3).trans (show _=some (.int .i64 0) from rfl)
   have z4:=(ac HB1.out 4).trans (show _=some (.int .i64 0) from rfl)
   have z5:=(ac HB1.out 5).trans (show _=some (.bool false) from rfl)
   have z6:=(ac HB1.out 6).trans (show _=some (.bool false) from rfl)
   have zf:=fun i=>ao HB1.out i
   refine QR 21 rfl (fun K9 hK=>?_)
   go_simp
   refine hK.out _ _ (ij HGX.out Hn2.out _ _ _ _ _ _ _) (fun hHeld3=>?_)
   clear hK K9
   (try go_frame)
   refine QD ?_
   obtain⟨Y,hY⟩:∃ Y,Y=((((((X.setCell ⟨n2,0,none⟩ (.int .i64 f.ho)).setCell ⟨n2,1,none⟩ (.int .u8 f.su)).setCell ⟨n2,2,none⟩ (.int .u16 f.tr)).setCell ⟨n2,3,none⟩ (.int .i64 f.po)).setCell ⟨n2,4,none⟩ (.int .i64 f.he)).setCell ⟨n2,5,none⟩ (.bool u)).setCell ⟨n2,6,none⟩ (.bool o):=⟨_,rfl⟩
   rw[←hY]
   have HY:Hid (w1.grownBy Y none∧CdB Y n2 f u o):=⟨by rw[hY];exact ij HGX.out Hn2.out _ _ _ _ _ _ _,by rw[hY];exact ar (ar (ar (ar (ar (ar (ar HB1.out 0 _) 1 _) 2 _) 3 _) 4 _) 5 _) 6 _⟩
   have s2:=HY.out.1.cell s2 (by simp)
   have s3:=HY.out.1.cell s3 (by simp)
   have s4:=HY.out.1.cell s4 (by simp)
   have s5:=HY.out.1.cell s5 (by simp)
   have s6:=HY.out.1.cell s6 (by simp)
   have s7:=HY.out.1.cell s7 (by simp)
   have s8:=HY.out.1.cell s8 (by simp)
   have s9:=HY.out.1.cell s9 (by simp)
   obtain⟨q0,q1,q2,q3,q4,q5,q6⟩:=qr HY.out.2
   clear hY hHeld hHeld2 hHeld3 z0 z1 z2 z3 z4 z5 z6 zf HB1 HGX Hn2 t0 t1 t2 t3 t4 t5 t6 t7 t8 t9 t10 f0 f1 f2 f3 f4
   go_wp2_with (go_at_call 214;refine(CW _).mono ?_;rintro e4 w4 ⟨rfl,g4⟩;have HG4:Hid (Y.grownBy w4 none):=g4)
   go_ret
   exact⟨aJ HR.out.symm,aa HG.out (aa HG1.out (aa HY.out.1 HG4.out))⟩
  ·simp only[QA,QB,QC]
   go_simp
   refine hK.out _ _ (aa (ak (aq _ _) _) (ag _)) (fun hHeld3=>?_)
   clear hK K9
   (try go_frame)
   obtain⟨X1,hX1⟩:∃ X1,X1=(w1.alloc (.cells #[.int .i64 0,.int .u8 0,.int .u16 0,.int .i64 0,.int .i64 0,.bool false,.bool false] 283)).drew:=⟨_,rfl⟩
   rw[←hX1]
   have HB0:Hid (X1.heap[w1.heap.size]?=some (.cells #[.int .i64 0,.int .u8 0,.int .u16 0,.int .i64 0,.int .i64 0,.bool false,.bool false] 283 (0,0))):=by rw[hX1];exact ai w1 _ _
   have HGX1:Hid (w1.grownBy X1 none):=by rw[hX1];exact aa (ak (aq _ _) _) (ag _)
   obtain⟨n2,h2⟩:∃ n2,n2=w1.heap.size:=⟨_,rfl⟩
   have Hn2:Hid (w1.heap.size≤n2):=by rw[h2];exact Nat.le_refl _
   rw[←h2] at HB0 ⊢
   clear hX1 h2
   refine QR 14 rfl (fun K9 hK=>?_)
   go_simp
   go_at_call 133
   refine(CU _ (HGX1.out)).mono ?_
   rintro e3 w3 ⟨rfl,g3⟩
   have HG3:Hid (w1.grownBy w3 none):=aa (HGX1.out) g3
   refine hK.out _ _ HG3.out (fun hHeld2=>?_)
   clear hK K9
   (try go_frame)
   refine QZ 19 rfl ?_
   go_frame
   obtain⟨X,hX⟩:∃ X,X=w3:=⟨_,rfl⟩
   subst hX
   have HB1:Hid (X.heap[n2]?=some (.cells #[.int .i64 0,.int .u8 0,.int .u16 0,.int .i64 0,.int .i64 0,.bool false,.bool false] 283 (0,0))):=ae (g3) HB0.out (by simp)
   have HGX:Hid (w1.grownBy X none):=HG3.out
   have z0:=(ac HB1.out 0).trans (show _=some (.int .i64 0) from rfl)
   have z1:=(ac HB1.out 1).trans (show _=some (.int .u8 0) from rfl)
   have z2:=(ac HB1.out 2).trans (show _=some (.int .u16 0) from rfl)
   have z3:=(ac HB1.out 3).trans (show _=some (.int .i64 0) from rfl)
   have z4:=(ac HB1.out 4).trans (show _=some (.int .i64 0) from rfl)
   have z5:=(ac HB1.out 5).trans (show _=some (.bool false) from rfl)
   have z6:=(ac HB1.out 6).trans (show _=some (.bool false) from rfl)
   have zf:=fun i=>ao HB1.out i
   refine QR 21 rfl (fun K9 hK=>?_)
   go_simp
   refine hK.out _ _ (ij HGX.out Hn2.out _ _ _ _ _ _ _) (fun hHeld3=>?_)
   clear hK K9
   (try go_frame)
   refine QD ?_
   obtain⟨Y,hY⟩:∃ Y,Y=((((((X.setCell ⟨n2,0,none⟩ (.int .i64 f.ho)).setCell ⟨n2,1,none⟩ (.int .u8 f.su)).setCell ⟨n2,2,none⟩ (.int .u16 f.tr)).setCell ⟨n2,3,none⟩ (.int .i64 f.po)).setCell ⟨n2,4,none⟩ (.int .i64 f.he)).setCell ⟨n2,5,none⟩ (.bool u)).setCell ⟨n2,6,none⟩ (.bool o):=⟨_,rfl⟩
   rw[←hY]
   have HY:Hid (w1.grownBy Y none∧CdB Y n2 f u o):=⟨by rw[hY];exact ij HGX.out Hn2.out _ _ _ _ _ _ _,by rw[hY];exact ar (ar (ar (ar (ar (ar (ar HB1.out 0 _) 1 _) 2 _) 3 _) 4 _) 5 _) 6 _⟩
   have s2:=HY.out.1.cell s2 (by simp)
   have s3:=HY.out.1.cell s3 (by simp)
   have s4:=HY.out.1.cell s4 (by simp)
   have s5:=HY.out.1.cell s5 (by simp)
   have s6:=HY.out.1.cell s6 (by simp)
   have s7:=HY.out.1.cell s7 (by simp)
   have s8:=HY.out.1.cell s8 (by simp)
   have s9:=HY.out.1.cell s9 (by simp)
   obtain⟨q0,q1,q2,q3,q4,q5,q6⟩:=qr HY.out.2
   clear hY hHeld hHeld2 hHeld3 z0 z1 z2 z3 z4 z5 z6 zf HB1 HGX Hn2 t0 t1 t2 t3 t4 t5 t6 t7 t8 t9 t10 f0 f1 f2 f3 f4
   go_wp2_with (go_at_call 214;refine(CW _).mono ?_;rintro e4 w4 ⟨rfl,g4⟩;have HG4:Hid (Y.grownBy w4 none):=g4)
   go_ret
   exact⟨aJ HR.out.symm,aa HG.out (aa HG1.out (aa HY.out.1 HG4.out))⟩
theorem kX (bv vt vf vl:Value) (n:Int) (cd:Int→Hd×List Pt) (ts:List Th) (on:Int) (w:World) (A:thR.At w vt ts) (C:je w bv n cd) (hl:ts.length≤2048) (hbe:∀ (j:Nat) t,ts[j]?=some t→1≤t.card∧t.card≤n) (ho:dh on=true∨ej ts on=true):Calls Tryz.prog 65 #[ch bv vt vf vl,.int .i64 on] w fun e w'=>e=.returned (.bool (jI cd ts on))∧w.grownBy w' none:=by
 obtain⟨pt,ct,rfl⟩:=A.form
 obtain⟨V,hV⟩:∃ V,V=w.alloc (.cells #[bv,.slice pt ts.length ct,vf,vl] 136):=⟨_,rfl⟩
 have HG:Hid (w.grownBy V none):=by rw[hV];exact World.grownBy_alloc _ _ none
 have HC:Hid (bY V w.heap.size bv (.slice pt ts.length ct) vf vl):=by rw[hV];exact ai w _ _
 have HA:Hid (thR.At V (.slice pt ts.length ct) ts∧je V bv n cd∧ts.length≤2048∧(∀ (j:Nat) t,ts[j]?=some t→1≤t.card∧t.card≤n)∧(dh on=true∨ej ts on=true)):=⟨A.keep HG.out,C.keep HG.out,hl,hbe,ho⟩
 have CP:=fun W=>eX on W
 unfold ch
 clear A C hl hbe ho
 go_enter Tryz.func65,Tryz.ntmps65
 go_upto_region 1 with fail
 rw[←hV]
 clear hV
 obtain⟨n0,hn0⟩:∃ n0,n0=w.heap.size:=⟨_,rfl⟩
 simp only[←hn0] at HC ⊢
 clear hn0
 obtain⟨c0,c1,c2,c3⟩:=aR HC.out
 cases hp:dh on with
 | true =>
  have HR:Hid (jI cd ts on=false):=by show _=_;unfold jI;rw[hp];rfl
  rw[hp] at CP
  clear hp
  refine wp_region_held_drew (S:=fun w'=>V.grownBy w' none) (by kernel_rfl) (ag _) (fun hHeld=>?_)
  refine QZ 0 rfl ?_
  go_frame
  refine QR 1 rfl (fun K hK=>?_)
  go_simp
  go_at_call 132
  refine(CP _).mono ?_
  rintro e2 w2 ⟨rfl,q2⟩
  have HG2:Hid (V.grownBy w2 none):=by rw[q2];exact ag _
  clear q2
  refine hK.out _ _ (HG2.out) (fun hHeld2=>?_)
  clear hK K
  (try go_frame)
  refine QZ 2 rfl ?_
  go_frame
  refine QZ 3 rfl ?_
  go_frame
  refine QN 4 rfl ?_
  go_frame
  refine QN 5 rfl ?_
  go_frame
  refine QN 6 rfl ?_
  go_frame
  refine QN 7 rfl ?_
  go_frame
  refine QN 8 rfl ?_
  go_frame
  refine QN 9 rfl ?_
  go_frame
  refine QN 10 rfl ?_
  go_frame
  refine QN 11 rfl ?_
  go_frame
  refine QR 12 rfl (fun K hK=>?_)
  rw[if_neg (Bool.eq_false_iff.1 (by rfl))]
  refine hK.out _ _ (by assumption) (fun hHeld2=>?_)
  clear hK K
  (try go_frame)
  refine QZ 13 rfl ?_
  go_frame
  refine QZ 14 rfl ?_
  go_frame
  refine QN 15 rfl ?_
  go_frame
  refine QN 16 rfl ?_
  go_frame
  refine QR 17 rfl (fun K hK=>?_)
  rw[if_neg (Bool.eq_false_iff.1 (by rfl))]
  refine hK.out _ _ (by assumption) (fun hHeld2=>?_)
  clear hK K
  (try go_frame)
  refine QN 18 rfl ?_
  go_frame
  refine QZ 19 rfl ?_
  go_frame
  refine QZ 20 rfl ?_
  go_frame
  refine QD ?_
  go_wp2_with fail
  go_ret
  exact⟨aJ HR.out.symm,aa HG.out HG2.out⟩
 | false =>
  obtain⟨j,t,rfl,ht,-⟩:=oW (HA.out.2.2.2.2.resolve_left (by rw[hp];simp))
  have hjl:j<ts.length:=(List.getElem?_eq_some_iff.1 ht).1
  have HR:Hid (jI cd ts ((j:Int)+1)=(jR cd t && decide (0<t.m2))):=by show _=_;unfold jI;rw[hp,qv ht];rfl
  have CU:∀ X,V.grownBy X none→Calls Tryz.prog 133 #[bv,thv t] X fun e w'=>e=.returned (.bool (jR cd t))∧X.grownBy w' none:=fun X q=>ol bv n cd t X (HA.out.2.1.keep q) (HA.out.2.2.2.1 j t ht).1 (HA.out.2.2.2.1 j t ht).2
  have CS:∀ X,V.grownBy X none→Calls Tryz.prog 134 #[ch bv (.slice pt ts.length ct) vf vl,.int .i64 ((j:Int)+1)] X fun e w'=>e=.returned (.int .i64 t.m2)∧X.grownBy w' none:=fun X q=>jA bv _ vf vl ts j t X (HA.out.1.keep q) ht HA.out.2.2.1
  unfold ch at CS
  rw[hp] at CP
  have j1:((j:Int))<(ts.length:Int):=Int.ofNat_lt.2 hjl
  have wj:wrap64 (j:Int)=(j:Int):=EF hjl HA.out.2.2.1
  have wj2:IntKind.i64.wrap (j:Int)=(j:Int):=Ff hjl HA.out.2.2.1
  obtain⟨gT,oT,cT,eT,-⟩:=bG HA.out.1 hjl
  injection eT with eT eT2 eT3
  clear eT2 eT3
  subst eT
  obtain⟨t0,t1,t2,t3,t4,t5,t6,t7,t8,t9,t10⟩:=bc (gh HA.out.1 ht)
  unfold thv at CU
  obtain⟨u,hu⟩:∃ u,u=jR cd t:=⟨_,rfl⟩
  rw[←hu] at HR
  simp only[←hu] at CU
  clear hp ht hjl hu
  cases u with
  | false =>
   refine wp_region_held_drew (S:=fun w'=>V.grownBy w' none) (by kernel_rfl) (ag _) (fun hHeld=>?_)
   refine QZ 0 rfl ?_
   go_frame
   refine QR 1 rfl (fun K hK=>?_)
   go_simp
   go_at_call 132
   refine(CP _).mono ?_
   rintro e2 w2 ⟨rfl,q2⟩
   have HG2:Hid (V.grownBy w2 none):=by rw[q2];exact ag _
   clear q2
   refine hK.out _ _ (HG2.out) (fun hHeld2=>?_)
   clear hK K
   (try go_frame)
   refine QZ 2 rfl ?_
   go_frame
   refine QZ 3 rfl ?_
   go_frame
   refine QZ 4 rfl ?_
   go_frame
   refine QT 5 rfl (by intro w0 hSw;have c0:=hSw.cell c0 (by simp);go_simp;try with_reducible rfl) ?_
   go_frame
   refine QZ 6 rfl ?_
   go_frame
   refine QT 7 rfl (by intro w0 hSw;have c1:=hSw.cell c1 (by simp);go_simp;try with_reducible rfl) ?_
   go_frame
   refine QZ 8 rfl ?_
   go_frame
   refine QZ 9 rfl ?_
   go_frame
   refine QZ 10 rfl ?_
   go_frame
   refine QT 11 rfl (by intro w0 hSw;have t0:=hSw.cell t0 (by simp);have t1:=hSw.cell t1 (by simp);have t2:=hSw.cell t2 (by simp);have t3:=hSw.cell t3 (by simp);have t4:=hSw.cell t4 (by simp);have t5:=hSw.cell t5 (by simp);have t6:=hSw.cell t6 (by simp);have t7:=hSw.cell t7 (by simp);have t8:=hSw.cell t8 (by simp);have t9:=hSw.cell t9 (by simp);have t10:=hSw.cell t10 (by simp);go_simp;try with_reducible rfl) ?_
   go_frame
   refine QR 12 rfl (fun K hK=>?_)
   rw[if_pos (by rfl)]
   go_simp
   go_at_call 133
   refine(CU _ HG2.out).mono ?_
   rintro e3 w3 ⟨rfl,g3⟩
   have HG3:Hid (V.grownBy w3 none):=aa HG2.out g3
   clear g3
   refine hK.out _ _ (HG3.out) (fun hHeld2=>?_)
   clear hK K
   (try go_frame)
   refine QZ 13 rfl ?_
   go_frame
   refine QZ 14 rfl ?_
   go_frame
   refine QN 15 rfl ?_
   go_frame
   refine QN 16 rfl ?_
   go_frame
   refine QR 17 rfl (fun K hK=>?_)
   rw[if_neg (Bool.eq_false_iff.1 (by rfl))]
   refine hK.out _ _ (by assumption) (fun hHeld2=>?_)
   clear hK K
   (try go_frame)
   refine QN 18 rfl ?_
   go_frame
   refine QZ 19 rfl ?_
   go_frame
   refine QZ 20 rfl ?_
   go_frame
   refine QD ?_
   go_wp2_with fail
   go_ret
   exact⟨aJ HR.out.symm,aa HG.out HG3.out⟩
  | true =>
   refine wp_region_held_drew (S:=fun w'=>V.grownBy w' none) (by kernel_rfl) (ag _) (fun hHeld=>?_)
   refine QZ 0 rfl ?_
   go_frame
   refine QR 1 rfl (fun K hK=>?_)
   go_simp
   go_at_call 132
   refine(CP _).mono ?_
   rintro e2 w2 ⟨rfl,q2⟩
   have HG2:Hid (V.grownBy w2 none):=by rw[q2];exact ag _
   clear q2
   refine hK.out _ _ (HG2.out) (fun hHeld2=>?_)
   clear hK K
   (try go_frame)
   refine QZ 2 rfl ?_
   go_frame
   refine QZ 3 rfl ?_
   go_frame
   refine QZ 4 rfl ?_
   go_frame
   refine QT 5 rfl (by intro w0 hSw;have c0:=hSw.cell c0 (by simp);go_simp;try with_reducible rfl) ?_
   go_frame
   refine QZ 6 rfl ?_
   go_frame
   refine QT 7 rfl (by intro w0 hSw;have c1:=hSw.cell c1 (by simp);go_simp;try with_reducible rfl) ?_
   go_frame
   refine QZ 8 rfl ?_
   go_frame
   refine QZ 9 rfl ?_
   go_frame
   refine QZ 10 rfl ?_
   go_frame
   refine QT 11 rfl (by intro w0 hSw;have t0:=hSw.cell t0 (by simp);have t1:=hSw.cell t1 (by simp);have t2:=hSw.cell t2 (by simp);have t3:=hSw.cell t3 (by simp);have t4:=hSw.cell t4 (by simp);have t5:=hSw.cell t5 (by simp);have t6:=hSw.cell t6 (by simp);have t7:=hSw.cell t7 (by simp);have t8:=hSw.cell t8 (by simp);have t9:=hSw.cell t9 (by simp);have t10:=hSw.cell t10 (by simp);go_simp;try with_reducible rfl) ?_
   go_frame
   refine QR 12 rfl (fun K hK=>?_)
   rw[if_pos (by rfl)]
   go_simp
   go_at_call 133
   refine(CU _ HG2.out).mono ?_
   rintro e3 w3 ⟨rfl,g3⟩
   have HG3:Hid (V.grownBy w3 none):=aa HG2.out g3
   clear g3
   refine hK.out _ _ (HG3.out) (fun hHeld2=>?_)
   clear hK K
   (try go_frame)
   refine QZ 13 rfl ?_
   go_frame
   refine QZ 14 rfl ?_
   go_frame
   refine QT 15 rfl (by intro w0 hSw;have c0:=hSw.cell c0 (by simp);have c1:=hSw.cell c1 (by simp);have c2:=hSw.cell c2 (by simp);have c3:=hSw.cell c3 (by simp);go_simp;try with_reducible rfl) ?_
   go_frame
   refine QZ 16 rfl ?_
   go_frame
   refine QR 17 rfl (fun K hK=>?_)
   rw[if_pos (by rfl)]
   go_simp
   go_at_call 134
   refine(CS _ HG3.out).mono ?_
   rintro e4 w4 ⟨rfl,g4⟩
   have HG4:Hid (V.grownBy w4 none):=aa HG3.out g4
   clear g4
   refine hK.out _ _ (HG4.out) (fun hHeld2=>?_)
   clear hK K
   (try go_frame)
   refine QZ 18 rfl ?_
   go_frame
   refine QZ 19 rfl ?_
   go_frame
   refine QZ 20 rfl ?_
   go_frame
   refine QD ?_
   go_wp2_with fail
   go_ret
   exact⟨aJ HR.out.symm,aa HG.out HG4.out⟩
theorem lH (bv vt vf vl:Value) (n:Int) (cd:Int→Hd×List Pt) (ts:List Th) (F:List Fe) (s:Sd) (z:Nat) (g:Fe) (h:Hp) (w:World) (I:AIn w bv vt vf n cd ts F s z g) (hm:bw ts h=true):Calls Tryz.prog 88 #[ch bv vt vf vl,sdv s,hpv h] w fun e w'=>e=.returned (.bool (jk cd ts F s h))∧w.grownBy w' none:=by
 obtain⟨pt,ct,rfl⟩:=I.at1.form
 obtain⟨pf,cf,rfl⟩:=I.at2.form
 obtain⟨V,hV⟩:∃ V,V=((w.alloc (.cells #[bv,.slice pt ts.length ct,.slice pf F.length cf,vl] 136)).alloc (.cells #[.int .i64 s.th,.int .i64 s.pl,.int .u8 s.wh.wn,.int .u8 s.wh.vb,.int .u8 s.wh.wm,.int .i64 s.wh.ct,.int .u8 s.wh.su,.int .u8 s.wh.tr,.int .u8 s.wh.mr,.string s.wh.nm] 40)).alloc (.cells #[.int .u8 h.vb,.int .i64 h.on,.int .i64 h.ct,.int .i64 h.ho,.bool h.vn,.bool h.dr] 43):=⟨_,rfl⟩
 have HG:Hid (w.grownBy V none):=by rw[hV];exact ak (ak (World.grownBy_alloc _ _ none) _) _
 have HC:Hid (bY V w.heap.size bv (.slice pt ts.length ct) (.slice pf F.length cf) vl):=by rw[hV];exact ae (ak (World.grownBy_alloc _ _ none) _) (ai w _ _) (by simp)
 have HS:Hid (SdB V (w.heap.size+1) s):=by rw[hV];exact ae (World.grownBy_alloc _ _ none) (aP w _ _ _) (by simp)
 have HH:Hid (HpB V (w.heap.size+1+1) h):=by rw[hV];have:=ai ((w.alloc (.cells #[bv,.slice pt ts.length ct,.slice pf F.length cf,vl] 136)).alloc (.cells #[.int .i64 s.th,.int .i64 s.pl,.int .u8 s.wh.wn,.int .u8 s.wh.vb,.int .u8 s.wh.wm,.int .i64 s.wh.ct,.int .u8 s.wh.su,.int .u8 s.wh.tr,.int .u8 s.wh.mr,.string s.wh.nm] 40)) #[.int .u8 h.vb,.int .i64 h.on,.int .i64 h.ct,.int .i64 h.ho,.bool h.vn,.bool h.dr] 43;rw[World.size_alloc,World.size_alloc] at this;exact this
 have HI:Hid (AIn V bv (.slice pt ts.length ct) (.slice pf F.length cf) n cd ts F s z g):=I.keep HG.out
 have hm2:=tj hm
 have CA:=pD bv (.slice pt ts.length ct) (.slice pf F.length cf) vl n cd ts F s z g h.on V HI.out hm2.1
 have CF:∀ X,V.grownBy X none→Calls Tryz.prog 154 #[ch bv (.slice pt ts.length ct) (.slice pf F.length cf) vl,pv s.wh,hpv h] X fun e w'=>e=.returned (.bool (ir ts s.wh h))∧X.grownBy w' none:=fun X q=>xm bv _ _ vl ts s.wh h X (HI.out.at1.keep q) HI.out.few hm2.2
 unfold ch sdv at CA
 unfold ch pv hpv at CF
 unfold ch sdv hpv
 have HR:Hid (jk cd ts F s h=(iy cd ts F s h.on && ir ts s.wh h)):=rfl
 clear I hm hm2
 go_enter Tryz.func88,Tryz.ntmps88
 go_upto_region 1 with fail
 rw[←hV]
 clear hV
 obtain⟨n0,hn0⟩:∃ n0,n0=w.heap.size:=⟨_,rfl⟩
 simp only[←hn0] at HC HS HH ⊢
 obtain⟨n1,hn1⟩:∃ n1,n1=n0+1:=⟨_,rfl⟩
 simp only[←hn1] at HS HH ⊢
 obtain⟨n2,hn2⟩:∃ n2,n2=n1+1:=⟨_,rfl⟩
 simp only[←hn2] at HH ⊢
 clear hn0 hn1 hn2
 obtain⟨c0,c1,c2,c3⟩:=aR HC.out
 obtain⟨s0,s1,s2,s3,s4,s5,s6,s7,s8,s9⟩:=aT HS.out
 obtain⟨x0,x1,x2,x3,x4,x5⟩:=aL HH.out
 obtain⟨a,ha⟩:∃ a,a=iy cd ts F s h.on:=⟨_,rfl⟩
 rw[←ha] at HR CA
 clear ha
 go_wp2_with fail
 refine CA.mono ?_
 rintro e1 w1 ⟨rfl,g1⟩
 have HG1:Hid (V.grownBy w1 none):=g1
 have HC1:Hid (bY w1 n0 bv (.slice pt ts.length ct) (.slice pf F.length cf) vl):=ae g1 HC.out (by simp)
 have HS1:Hid (SdB w1 n1 s):=ae g1 HS.out (by simp)
 have HH1:Hid (HpB w1 n2 h):=ae g1 HH.out (by simp)
 have CF1:=CF w1 HG1.out
 clear CA CF g1 c0 c1 c2 c3 s0 s1 s2 s3 s4 s5 s6 s7 s8 s9 x0 x1 x2 x3 x4 x5
 obtain⟨c0,c1,c2,c3⟩:=aR HC1.out
 obtain⟨s0,s1,s2,s3,s4,s5,s6,s7,s8,s9⟩:=aT HS1.out
 obtain⟨x0,x1,x2,x3,x4,x5⟩:=aL HH1.out
 cases a with
 | false =>
  go_wp2_with fail
  go_ret
  exact⟨aJ HR.out.symm,aa HG.out HG1.out⟩
 | true =>
  go_wp2_with fail
  refine CF1.mono ?_
  rintro e2 w2 ⟨rfl,g2⟩
  have HG2:Hid (w1.grownBy w2 none):=g2
  clear g2 CF1
  go_wp2_with fail
  go_ret
  exact⟨aJ HR.out.symm,aa HG.out (aa HG1.out HG2.out)⟩
end Go.Proofs.YthfjgpjcepmnmaaGreat
