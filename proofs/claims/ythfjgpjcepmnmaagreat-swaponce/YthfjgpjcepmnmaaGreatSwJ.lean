/-
  
-/
import Derived.Test.YthfjgpjcepmnmaaGreatO0
import Derived.Test.YthfjgpjcepmnmaaGreatO41
import Derived.Laws.EntriesVeiled
namespace Go.Proofs.YthfjgpjcepmnmaaGreat
set_option maxRecDepth 100000
set_option maxHeartbeats 4000000
open Go.RowKit

def fM (s:Sd) (ho:Int) (h:Hp):Hp :=
 if s.wh.vb=16 then { h with ct:=wrap64 (h.ct - s.wh.ct) }
 else if s.wh.vb=17 then { h with ct:=min (wrap64 (2*h.ct)) 9999 }
 else if s.wh.vb=18 then { h with on:=wrap64 (-1 - wrap64 (1 - ho)) }
 else Hp.none
def chN (v:Int):Nat:=if v=16 then 268 else if v=17 then 269 else if v=18 then 270 else 271
theorem ub {v:Int} (h:16≤v∧v≤19):v=16∧chN v=268∨v=17∧chN v=269∨v=18∧chN v=270∨v=19∧chN v=271:=by
 have:v=16∨v=17∨v=18∨v=19:=by omega
 rcases this with rfl | rfl | rfl | rfl
 ·exact Or.inl ⟨rfl,rfl⟩
 ·exact Or.inr (Or.inl ⟨rfl,rfl⟩)
 ·exact Or.inr (Or.inr (Or.inl ⟨rfl,rfl⟩))
 ·exact Or.inr (Or.inr (Or.inr ⟨rfl,rfl⟩))
theorem Cu (s:Sd) (ho:Int) (h:Hp) (w:World) (hv:16≤s.wh.vb∧s.wh.vb≤19):Calls Tryz.prog (chN s.wh.vb) #[hpv h,.int .i64 s.wh.ct,.int .i64 ho] w fun e w'=>e=.returned (hpv (fM s ho h))∧w.grownBy w' none:=by
 have h1:=Bx h s.wh.ct ho w
 have h2:=zL h s.wh.ct ho w
 have h3:=Ar h s.wh.ct ho w
 have h4:=zK h s.wh.ct ho w
 rcases ub hv with ⟨e,q⟩ | ⟨e,q⟩ | ⟨e,q⟩ | ⟨e,q⟩
 ·rw[q,show fM s ho h={ h with ct:=wrap64 (h.ct - s.wh.ct) } from by unfold fM;rw[if_pos e]];exact h1
 ·rw[q,show fM s ho h={ h with ct:=min (wrap64 (2*h.ct)) 9999 } from by unfold fM;rw[if_neg (by omega),if_pos e]];exact h2
 ·rw[q,show fM s ho h={ h with on:=wrap64 (-1 - wrap64 (1 - ho)) } from by unfold fM;rw[if_neg (by omega),if_neg (by omega),if_pos e]];exact h3
 ·rw[q,show fM s ho h=Hp.none from by unfold fM;rw[if_neg (by omega),if_neg (by omega),if_neg (by omega)]];exact h4
theorem aW (b:World) (c:Nat) (v0 v1 v2 v3 v4 v5:Value):b.grownBy ((((((b.setCell ⟨c,0,none⟩ v0).setCell ⟨c,1,none⟩ v1).setCell ⟨c,2,none⟩ v2).setCell ⟨c,3,none⟩ v3).setCell ⟨c,4,none⟩ v4).setCell ⟨c,5,none⟩ v5) (some c):=((((((aj _ _ _ _).trans (aj _ _ _ _)).trans (aj _ _ _ _)).trans (aj _ _ _ _)).trans (aj _ _ _ _)).trans (aj _ _ _ _))
theorem iI {P:Program} {md:Region.Mode} {ops:Array Oper} {Q:Exit→Act→World→Prop} {S S':World→Prop} (hS:∀ w,S' w→S w):∀ (fuel:Nat) (listed:Array Bool) (a:Act) (w:World),wpAnyH P md ops Q S' fuel listed a w→wpAnyH P md ops Q S fuel listed a w
 | 0,_,_,_,h=>h
 | fuel+1,_,_,_,h=>⟨h.1,fun i hi=>wpOp_mono (fun a' w' h'=>⟨hS _ h'.1,iI hS fuel _ a' w' h'.2⟩) (h.2 i hi)⟩
def ip (s:Sd) (ho:Int) (h:Hp):Hp:=if cG (fM s ho h) then Hp.none else fM s ho h
theorem sw (bv vt vf vl:Value) (n:Int) (cd:Int→Hd×List Pt) (ts:List Th) (F:List Fe) (s:Sd) (z:Nat) (g:Fe) (h:Hp) (w:World) (I:AIn w bv vt vf n cd ts F s z g) (hv:16≤s.wh.vb∧s.wh.vb≤19):Calls Tryz.prog 151 #[ch bv vt vf vl,hpv h,sdv s] w fun e w'=>e=.returned (hpv (ip s g.ho h))∧w.grownBy w' none:=by
 obtain⟨pt,ct,rfl⟩:=I.at1.form
 obtain⟨pf,cf,rfl⟩:=I.at2.form
 obtain⟨V,hV⟩:∃ V,V=(((w.alloc (.cells #[bv,.slice pt ts.length ct,.slice pf F.length cf,vl] 136)).alloc (.cells #[.int .u8 h.vb,.int .i64 h.on,.int .i64 h.ct,.int .i64 h.ho,.bool h.vn,.bool h.dr] 43)).alloc (.cells #[.int .i64 s.th,.int .i64 s.pl,.int .u8 s.wh.wn,.int .u8 s.wh.vb,.int .u8 s.wh.wm,.int .i64 s.wh.ct,.int .u8 s.wh.su,.int .u8 s.wh.tr,.int .u8 s.wh.mr,.string s.wh.nm] 40)).alloc (.cells #[.int .u8 0,.int .i64 0,.int .i64 0,.int .i64 0,.bool false,.bool false] 43):=⟨_,rfl⟩
 have HG:Hid (w.grownBy V none):=by rw[hV];exact ak (ak (ak (World.grownBy_alloc _ _ none) _) _) _
 have HC:Hid (bY V w.heap.size bv (.slice pt ts.length ct) (.slice pf F.length cf) vl):=by rw[hV];exact ae (ak (ak (World.grownBy_alloc _ _ none) _) _) (ai w _ _) (by simp)
 have HH:Hid (HpB V (w.heap.size+1) h):=by rw[hV];exact ae (ak (World.grownBy_alloc _ _ none) _) (aP w _ _ _) (by simp)
 have HS:Hid (SdB V (w.heap.size+1+1) s):=by rw[hV];refine ae (World.grownBy_alloc _ _ none) ?_ (by simp);have:=ai ((w.alloc (.cells #[bv,.slice pt ts.length ct,.slice pf F.length cf,vl] 136)).alloc (.cells #[.int .u8 h.vb,.int .i64 h.on,.int .i64 h.ct,.int .i64 h.ho,.bool h.vn,.bool h.dr] 43)) #[.int .i64 s.th,.int .i64 s.pl,.int .u8 s.wh.wn,.int .u8 s.wh.vb,.int .u8 s.wh.wm,.int .i64 s.wh.ct,.int .u8 s.wh.su,.int .u8 s.wh.tr,.int .u8 s.wh.mr,.string s.wh.nm] 40;rw[World.size_alloc,World.size_alloc] at this;exact this
 have HZ:Hid (HpB V (w.heap.size+1+1+1) Hp.none):=by rw[hV];have:=ai (((w.alloc (.cells #[bv,.slice pt ts.length ct,.slice pf F.length cf,vl] 136)).alloc (.cells #[.int .u8 h.vb,.int .i64 h.on,.int .i64 h.ct,.int .i64 h.ho,.bool h.vn,.bool h.dr] 43)).alloc (.cells #[.int .i64 s.th,.int .i64 s.pl,.int .u8 s.wh.wn,.int .u8 s.wh.vb,.int .u8 s.wh.wm,.int .i64 s.wh.ct,.int .u8 s.wh.su,.int .u8 s.wh.tr,.int .u8 s.wh.mr,.string s.wh.nm] 40)) #[.int .u8 0,.int .i64 0,.int .i64 0,.int .i64 0,.bool false,.bool false] 43;rw[World.size_alloc,World.size_alloc,World.size_alloc] at this;exact this
 have HI:Hid (AIn V bv (.slice pt ts.length ct) (.slice pf F.length cf) n cd ts F s z g):=I.keep HG.out
 have CHo:∀ X,V.grownBy X none→Calls Tryz.prog 212 #[ch bv (.slice pt ts.length ct) (.slice pf F.length cf) vl,sdv s] X fun e w'=>e=.returned (.int .i64 g.ho)∧X.grownBy w' none:=fun X q=>kR bv _ _ vl F s z g X (HI.out.at2.keep q) HI.out.hg HI.out.hz (by rw[←HI.out.len];exact Nat.le_trans HI.out.few (by decide))
 have CCh:=fun W=>Cu s g.ho h W hv
 have hlk:=fun (W:World) (b:Nat) (hb:W.heap[b]?=some (.map chE 4))=>D0 hb (ub hv)
 obtain⟨fN,hfN⟩:∃ fN,fN=chN s.wh.vb:=⟨_,rfl⟩
 have hent:∀ args W,(callFunc fN args).run Tryz.prog W=.ok (.enter fN args) W:=by
  have e1:=enters_of Tryz.func268 (by kernel_rfl) rfl
  have e2:=enters_of Tryz.func269 (by kernel_rfl) rfl
  have e3:=enters_of Tryz.func270 (by kernel_rfl) rfl
  have e4:=enters_of Tryz.func271 (by kernel_rfl) rfl
  rw[hfN]
  rcases ub hv with ⟨_,q⟩ | ⟨_,q⟩ | ⟨_,q⟩ | ⟨_,q⟩ <;> rw[q]
  ·exact e1
  ·exact e2
  ·exact e3
  ·exact e4
 rw[←hfN] at CCh
 simp only[←hfN] at hlk
 obtain⟨ho,hho⟩:∃ ho,ho=g.ho:=⟨_,rfl⟩
 rw[←hho] at CCh ⊢
 simp only[←hho] at CHo
 obtain⟨c,hc⟩:∃ c,c=fM s ho h:=⟨_,rfl⟩
 have Hc:Hid (c=fM s ho h):=hc
 rw[←hc] at CCh
 have CN:=fun W=>jg c W
 unfold hpv at CCh CN
 unfold ch sdv at CHo
 unfold ch sdv hpv
 clear I hv hfN hho hc
 go_enter Tryz.func151,Tryz.ntmps151
 go_upto_region 1 with fail
 rw[←hV]
 clear hV
 obtain⟨n0,hn0⟩:∃ n0,n0=w.heap.size:=⟨_,rfl⟩
 have Hn:Hid (w.heap.size≤n0):=by rw[hn0];exact Nat.le_refl _
 simp only[←hn0] at HC HH HS HZ ⊢
 obtain⟨n1,hn1⟩:∃ n1,n1=n0+1:=⟨_,rfl⟩
 simp only[←hn1] at HH HS HZ ⊢
 obtain⟨n2,hn2⟩:∃ n2,n2=n1+1:=⟨_,rfl⟩
 simp only[←hn2] at HS HZ ⊢
 obtain⟨n3,hn3⟩:∃ n3,n3=n2+1:=⟨_,rfl⟩
 have Hn3:Hid (w.heap.size≤n3):=by have:=Hn.out;show _≤_;omega
 simp only[←hn3] at HZ ⊢
 clear hn0 hn1 hn2 hn3
 obtain⟨c0,c1,c2,c3⟩:=aR HC.out
 obtain⟨s0,s1,s2,s3,s4,s5,s6,s7,s8,s9⟩:=aT HS.out
 obtain⟨x0,x1,x2,x3,x4,x5⟩:=aL HH.out
 refine wp_region_held_drew (S:=fun w'=>V.grownBy w' none) (by kernel_rfl) (ag _) (fun hHeld=>?_)
 refine QZ 1 rfl ?_
 go_frame
 refine QZ 2 rfl ?_
 go_frame
 refine QT 3 rfl (by intro w0 hSw;have s3:=hSw.cell s3 (by simp);go_simp;try with_reducible rfl) ?_
 go_frame
 refine QT 5 rfl (by intro w0 hSw;have x0:=hSw.cell x0 (by simp);have x1:=hSw.cell x1 (by simp);have x2:=hSw.cell x2 (by simp);have x3:=hSw.cell x3 (by simp);have x4:=hSw.cell x4 (by simp);have x5:=hSw.cell x5 (by simp);go_simp;try with_reducible rfl) ?_
 go_frame
 refine QZ 6 rfl ?_
 go_frame
 refine QZ 7 rfl ?_
 go_frame
 refine QT 8 rfl (by intro w0 hSw;have s5:=hSw.cell s5 (by simp);go_simp;try with_reducible rfl) ?_
 go_frame
 refine QT 9 rfl (by intro w0 hSw;have c0:=hSw.cell c0 (by simp);have c1:=hSw.cell c1 (by simp);have c2:=hSw.cell c2 (by simp);have c3:=hSw.cell c3 (by simp);go_simp;try with_reducible rfl) ?_
 go_frame
 refine QT 10 rfl (by intro w0 hSw;have s0:=hSw.cell s0 (by simp);have s1:=hSw.cell s1 (by simp);have s2:=hSw.cell s2 (by simp);have s3:=hSw.cell s3 (by simp);have s4:=hSw.cell s4 (by simp);have s5:=hSw.cell s5 (by simp);have s6:=hSw.cell s6 (by simp);have s7:=hSw.cell s7 (by simp);have s8:=hSw.cell s8 (by simp);have s9:=hSw.cell s9 (by simp);go_simp;try with_reducible rfl) ?_
 go_frame
 refine wpAnyH_ready (rs:=[0,13]) (by kernel_rfl) (by simp) ?_
 refine AllReadyH.cons rfl (fun K9 hK=>?_) (AllReadyH.cons rfl (fun K9 hK=>?_) AllReadyH.nil)
 ·simp only[QA,QB]
  go_simp
  go_at_call 211
  refine(jx _).mono ?_
  rintro e4 wm ⟨rfl,hm4,g4⟩
  have HGm:Hid (V.grownBy wm none):=aa (ag _) g4
  refine hK.out _ _ HGm.out (fun hHeld2=>?_)
  clear hK K9
  (try go_frame)
  obtain⟨mb,hmb⟩:∃ mb,mb=(V).heap.size:=⟨_,rfl⟩
  have hm5:wm.heap[(V).heap.size]?=some (.map chE 4):=hm4
  rw[←hmb] at hm5
  (first | rw[←hmb] | rw[show (V).drew.heap.size=mb from hmb.symm])
  have HM:Hid (wm.heap[mb]?=some (.map chE 4)):=hm5
  clear hmb hm4 hm5
  refine iI (S':=fun w'=>V.grownBy w' none∧w'.heap[mb]?=some (.map chE 4)) (fun _ h=>h.1) _ _ _ _ ?_
  have hHeldM:V.grownBy wm none∧wm.heap[mb]?=some (.map chE 4):=⟨HGm.out,HM.out⟩
  refine QT 4 rfl (by intro w0 hSw;have hlm:=hlk w0 mb hSw.2;go_simp;try with_reducible rfl) ?_
  go_frame
  refine wpAnyH_ready (rs:=[11,13]) (by kernel_rfl) (by simp) ?_
  refine AllReadyH.cons rfl (fun K9 hK=>?_) (AllReadyH.cons rfl (fun K9 hK=>?_) AllReadyH.nil)
  ·simp only[QA,QB,QC]
   go_simp
   go_at_call 212
   refine(CHo _ (HGm.out)).mono ?_
   rintro e5 w5 ⟨rfl,g5⟩
   have HG5:Hid (V.grownBy w5 none):=aa (HGm.out) g5
   have HM5:Hid (w5.heap[mb]?=some (.map chE 4)):=ae g5 (HM.out) (by simp)
   refine hK.out _ _ ⟨HG5.out,HM5.out⟩ (fun hHeld2=>?_)
   clear hK K9
   (try go_frame)
   refine wpAnyH_ready (rs:=[12,13]) (by kernel_rfl) (by simp) ?_
   refine AllReadyH.cons rfl (fun K9 hK=>?_) (AllReadyH.cons rfl (fun K9 hK=>?_) AllReadyH.nil)
   ·simp only[QA,QB,QC]
    go_simp
    go_at_fn fN
    refine(CCh _).mono ?_
    rintro e7 w7 ⟨rfl,g7⟩
    have HG7:Hid (V.grownBy w7 none):=aa (HG5.out) g7
    have HM7:Hid (w7.heap[mb]?=some (.map chE 4)):=ae g7 (HM5.out) (by simp)
    refine hK.out _ _ ⟨HG7.out,HM7.out⟩ (fun hHeld2=>?_)
    clear hK K9
    (try go_frame)
    refine QR 13 rfl (fun K9 hK=>?_)
    go_simp
    refine hK.out _ _ (⟨ak (HG7.out) _,ae (World.grownBy_alloc _ _ none) (HM7.out) (by simp)⟩) (fun hHeld3=>?_)
    clear hK K9
    (try go_frame)
    obtain⟨X,hX⟩:∃ X,X=w7.alloc (.cells #[.int .u8 0,.int .i64 0,.int .i64 0,.int .i64 0,.bool false,.bool false] 43):=⟨_,rfl⟩
    rw[←hX]
    have HB0:Hid (HpB X w7.heap.size Hp.none):=by rw[hX];exact ai w7 _ _
    have HGX:Hid (V.grownBy X none):=by rw[hX];exact ak (HG7.out) _
    have HMX:Hid (X.heap[mb]?=some (.map chE 4)):=by rw[hX];exact ae (World.grownBy_alloc _ _ none) (HM7.out) (by simp)
    obtain⟨n4,h4⟩:∃ n4,n4=w7.heap.size:=⟨_,rfl⟩
    have Hn4:Hid (V.heap.size≤n4):=by rw[h4];exact(HG7.out).size
    rw[←h4] at HB0 ⊢
    clear hX h4
    have HBX:Hid (HpB X n4 Hp.none):=HB0.out
    obtain⟨q0,q1,q2,q3,q4,q5⟩:=di HBX.out
    have qf:=fun i=>ao HBX.out i
    refine QR 14 rfl (fun K9 hK=>?_)
    go_simp
    refine hK.out _ _ ⟨aV (HGX.out) Hn4.out _ _ _ _ _ _,?_⟩ (fun hHeld3=>?_)
    ·exact ae (aW _ _ _ _ _ _ _ _) (HMX.out) (fun q=>by have:=Option.some.inj q;subst this;have h9:=HBX.out;unfold HpB at h9;rw[HMX.out] at h9;simp at h9)
    clear hK K9
    (try go_frame)
    refine QD ?_
    obtain⟨Y,hY⟩:∃ Y,Y=(((((X.setCell ⟨n4,0,none⟩ (.int .u8 c.vb)).setCell ⟨n4,1,none⟩ (.int .i64 c.on)).setCell ⟨n4,2,none⟩ (.int .i64 c.ct)).setCell ⟨n4,3,none⟩ (.int .i64 c.ho)).setCell ⟨n4,4,none⟩ (.bool c.vn)).setCell ⟨n4,5,none⟩ (.bool c.dr):=⟨_,rfl⟩
    rw[←hY]
    have HY:Hid (HpB Y n4 c∧V.grownBy Y none):=⟨by rw[hY];exact dZ c HBX.out,by rw[hY];exact aV (HGX.out) Hn4.out _ _ _ _ _ _⟩
    clear hY hHeld q0 q1 q2 q3 q4 q5 qf HBX
    obtain⟨y0,y1,y2,y3,y4,y5⟩:=aL HY.out.1
    go_wp2_with fail
    refine(CN _).mono ?_
    rintro e6 w6 ⟨rfl,g6⟩
    have HY6:Hid (HpB w6 n4 c∧HpB w6 n3 Hp.none∧w.grownBy w6 none):=⟨ae g6 HY.out.1 (by simp),ae (aa HY.out.2 g6) HZ.out (by simp),aa HG.out (aa HY.out.2 g6)⟩
    clear g6 y0 y1 y2 y3 y4 y5
    obtain⟨y0,y1,y2,y3,y4,y5⟩:=aL HY6.out.1
    obtain⟨z0,z1,z2,z3,z4,z5⟩:=di HY6.out.2.1
    have zf:=fun i=>ao HY6.out.2.1 i
    cases hq:cG c with
    | true =>
     have HR:Hid (ip s ho h=Hp.none):=by show _=_;unfold ip;rw[←Hc.out,hq];rfl
     go_wp2_with fail
     refine bodyPost_ret (v:=hpv Hp.none) (by simp[results,Tryz.results151,go_sem,hpv,Hp.none,z0,z1,z2,z3,z4,z5]) rfl ⟨by rw[HR.out];rfl,?_⟩
     exact aV HY6.out.2.2 Hn3.out _ _ _ _ _ _
    | false =>
     have HR:Hid (ip s ho h=c):=by show _=_;unfold ip;rw[←Hc.out,hq];rfl
     go_wp2_with fail
     refine bodyPost_ret (v:=hpv c) (by simp[results,Tryz.results151,go_sem,hpv,z0,z1,z2,z3,z4,z5]) rfl ⟨by rw[HR.out];rfl,?_⟩
     exact aV HY6.out.2.2 Hn3.out _ _ _ _ _ _
   ·simp only[QA,QB,QC]
    go_simp
    refine hK.out _ _ (⟨ak (HG5.out) _,ae (World.grownBy_alloc _ _ none) (HM5.out) (by simp)⟩) (fun hHeld3=>?_)
    clear hK K9
    (try go_frame)
    obtain⟨X,hX⟩:∃ X,X=w5.alloc (.cells #[.int .u8 0,.int .i64 0,.int .i64 0,.int .i64 0,.bool false,.bool false] 43):=⟨_,rfl⟩
    rw[←hX]
    have HB0:Hid (HpB X w5.heap.size Hp.none):=by rw[hX];exact ai w5 _ _
    have HGX:Hid (V.grownBy X none):=by rw[hX];exact ak (HG5.out) _
    have HMX:Hid (X.heap[mb]?=some (.map chE 4)):=by rw[hX];exact ae (World.grownBy_alloc _ _ none) (HM5.out) (by simp)
    obtain⟨n4,h4⟩:∃ n4,n4=w5.heap.size:=⟨_,rfl⟩
    have Hn4:Hid (V.heap.size≤n4):=by rw[h4];exact(HG5.out).size
    rw[←h4] at HB0 ⊢
    clear hX h4
    refine QR 12 rfl (fun K9 hK=>?_)
    go_simp
    go_at_fn fN
    refine(CCh _).mono ?_
    rintro e7 w7 ⟨rfl,g7⟩
    have HG7:Hid (V.grownBy w7 none):=aa (HGX.out) g7
    have HM7:Hid (w7.heap[mb]?=some (.map chE 4)):=ae g7 (HMX.out) (by simp)
    have HBX1:Hid (HpB w7 n4 Hp.none):=ae g7 HB0.out (by simp)
    refine hK.out _ _ ⟨HG7.out,HM7.out⟩ (fun hHeld2=>?_)
    clear hK K9
    (try go_frame)
    have HBX:Hid (HpB w7 n4 Hp.none):=HBX1.out
    obtain⟨q0,q1,q2,q3,q4,q5⟩:=di HBX.out
    have qf:=fun i=>ao HBX.out i
    refine QR 14 rfl (fun K9 hK=>?_)
    go_simp
    refine hK.out _ _ ⟨aV (HG7.out) Hn4.out _ _ _ _ _ _,?_⟩ (fun hHeld3=>?_)
    ·exact ae (aW _ _ _ _ _ _ _ _) (HM7.out) (fun q=>by have:=Option.some.inj q;subst this;have h9:=HBX.out;unfold HpB at h9;rw[HM7.out] at h9;simp at h9)
    clear hK K9
    (try go_frame)
    refine QD ?_
    obtain⟨Y,hY⟩:∃ Y,Y=(((((w7.setCell ⟨n4,0,none⟩ (.int .u8 c.vb)).setCell ⟨n4,1,none⟩ (.int .i64 c.on)).setCell ⟨n4,2,none⟩ (.int .i64 c.ct)).setCell ⟨n4,3,none⟩ (.int .i64 c.ho)).setCell ⟨n4,4,none⟩ (.bool c.vn)).setCell ⟨n4,5,none⟩ (.bool c.dr):=⟨_,rfl⟩
    rw[←hY]
    have HY:Hid (HpB Y n4 c∧V.grownBy Y none):=⟨by rw[hY];exact dZ c HBX.out,by rw[hY];exact aV (HG7.out) Hn4.out _ _ _ _ _ _⟩
    clear hY hHeld q0 q1 q2 q3 q4 q5 qf HBX
    obtain⟨y0,y1,y2,y3,y4,y5⟩:=aL HY.out.1
    go_wp2_with fail
    refine(CN _).mono ?_
    rintro e6 w6 ⟨rfl,g6⟩
    have HY6:Hid (HpB w6 n4 c∧HpB w6 n3 Hp.none∧w.grownBy w6 none):=⟨ae g6 HY.out.1 (by simp),ae (aa HY.out.2 g6) HZ.out (by simp),aa HG.out (aa HY.out.2 g6)⟩
    clear g6 y0 y1 y2 y3 y4 y5
    obtain⟨y0,y1,y2,y3,y4,y5⟩:=aL HY6.out.1
    obtain⟨z0,z1,z2,z3,z4,z5⟩:=di HY6.out.2.1
    have zf:=fun i=>ao HY6.out.2.1 i
    cases hq:cG c with
    | true =>
     have HR:Hid (ip s ho h=Hp.none):=by show _=_;unfold ip;rw[←Hc.out,hq];rfl
     go_wp2_with fail
     refine bodyPost_ret (v:=hpv Hp.none) (by simp[results,Tryz.results151,go_sem,hpv,Hp.none,z0,z1,z2,z3,z4,z5]) rfl ⟨by rw[HR.out];rfl,?_⟩
     exact aV HY6.out.2.2 Hn3.out _ _ _ _ _ _
    | false =>
     have HR:Hid (ip s ho h=c):=by show _=_;unfold ip;rw[←Hc.out,hq];rfl
     go_wp2_with fail
     refine bodyPost_ret (v:=hpv c) (by simp[results,Tryz.results151,go_sem,hpv,z0,z1,z2,z3,z4,z5]) rfl ⟨by rw[HR.out];rfl,?_⟩
     exact aV HY6.out.2.2 Hn3.out _ _ _ _ _ _
  ·simp only[QA,QB,QC]
   go_simp
   refine hK.out _ _ (⟨ak (HGm.out) _,ae (World.grownBy_alloc _ _ none) (HM.out) (by simp)⟩) (fun hHeld3=>?_)
   clear hK K9
   (try go_frame)
   obtain⟨X,hX⟩:∃ X,X=wm.alloc (.cells #[.int .u8 0,.int .i64 0,.int .i64 0,.int .i64 0,.bool false,.bool false] 43):=⟨_,rfl⟩
   rw[←hX]
   have HB0:Hid (HpB X wm.heap.size Hp.none):=by rw[hX];exact ai wm _ _
   have HGX:Hid (V.grownBy X none):=by rw[hX];exact ak (HGm.out) _
   have HMX:Hid (X.heap[mb]?=some (.map chE 4)):=by rw[hX];exact ae (World.grownBy_alloc _ _ none) (HM.out) (by simp)
   obtain⟨n4,h4⟩:∃ n4,n4=wm.heap.size:=⟨_,rfl⟩
   have Hn4:Hid (V.heap.size≤n4):=by rw[h4];exact(HGm.out).size
   rw[←h4] at HB0 ⊢
   clear hX h4
   refine QR 11 rfl (fun K9 hK=>?_)
   go_simp
   go_at_call 212
   refine(CHo _ (HGX.out)).mono ?_
   rintro e5 w5 ⟨rfl,g5⟩
   have HG5:Hid (V.grownBy w5 none):=aa (HGX.out) g5
   have HM5:Hid (w5.heap[mb]?=some (.map chE 4)):=ae g5 (HMX.out) (by simp)
   have HBX0:Hid (HpB w5 n4 Hp.none):=ae g5 HB0.out (by simp)
   refine hK.out _ _ ⟨HG5.out,HM5.out⟩ (fun hHeld2=>?_)
   clear hK K9
   (try go_frame)
   refine QR 12 rfl (fun K9 hK=>?_)
   go_simp
   go_at_fn fN
   refine(CCh _).mono ?_
   rintro e7 w7 ⟨rfl,g7⟩
   have HG7:Hid (V.grownBy w7 none):=aa (HG5.out) g7
   have HM7:Hid (w7.heap[mb]?=some (.map chE 4)):=ae g7 (HM5.out) (by simp)
   have HBX1:Hid (HpB w7 n4 Hp.none):=ae g7 HBX0.out (by simp)
   refine hK.out _ _ ⟨HG7.out,HM7.out⟩ (fun hHeld2=>?_)
   clear hK K9
   (try go_frame)
   have HBX:Hid (HpB w7 n4 Hp.none):=HBX1.out
   obtain⟨q0,q1,q2,q3,q4,q5⟩:=di HBX.out
   have qf:=fun i=>ao HBX.out i
   refine QR 14 rfl (fun K9 hK=>?_)
   go_simp
   refine hK.out _ _ ⟨aV (HG7.out) Hn4.out _ _ _ _ _ _,?_⟩ (fun hHeld3=>?_)
   ·exact ae (aW _ _ _ _ _ _ _ _) (HM7.out) (fun q=>by have:=Option.some.inj q;subst this;have h9:=HBX.out;unfold HpB at h9;rw[HM7.out] at h9;simp at h9)
   clear hK K9
   (try go_frame)
   refine QD ?_
   obtain⟨Y,hY⟩:∃ Y,Y=(((((w7.setCell ⟨n4,0,none⟩ (.int .u8 c.vb)).setCell ⟨n4,1,none⟩ (.int .i64 c.on)).setCell ⟨n4,2,none⟩ (.int .i64 c.ct)).setCell ⟨n4,3,none⟩ (.int .i64 c.ho)).setCell ⟨n4,4,none⟩ (.bool c.vn)).setCell ⟨n4,5,none⟩ (.bool c.dr):=⟨_,rfl⟩
   rw[←hY]
   have HY:Hid (HpB Y n4 c∧V.grownBy Y none):=⟨by rw[hY];exact dZ c HBX.out,by rw[hY];exact aV (HG7.out) Hn4.out _ _ _ _ _ _⟩
   clear hY hHeld q0 q1 q2 q3 q4 q5 qf HBX
   obtain⟨y0,y1,y2,y3,y4,y5⟩:=aL HY.out.1
   go_wp2_with fail
   refine(CN _).mono ?_
   rintro e6 w6 ⟨rfl,g6⟩
   have HY6:Hid (HpB w6 n4 c∧HpB w6 n3 Hp.none∧w.grownBy w6 none):=⟨ae g6 HY.out.1 (by simp),ae (aa HY.out.2 g6) HZ.out (by simp),aa HG.out (aa HY.out.2 g6)⟩
   clear g6 y0 y1 y2 y3 y4 y5
   obtain⟨y0,y1,y2,y3,y4,y5⟩:=aL HY6.out.1
   obtain⟨z0,z1,z2,z3,z4,z5⟩:=di HY6.out.2.1
   have zf:=fun i=>ao HY6.out.2.1 i
   cases hq:cG c with
   | true =>
    have HR:Hid (ip s ho h=Hp.none):=by show _=_;unfold ip;rw[←Hc.out,hq];rfl
    go_wp2_with fail
    refine bodyPost_ret (v:=hpv Hp.none) (by simp[results,Tryz.results151,go_sem,hpv,Hp.none,z0,z1,z2,z3,z4,z5]) rfl ⟨by rw[HR.out];rfl,?_⟩
    exact aV HY6.out.2.2 Hn3.out _ _ _ _ _ _
   | false =>
    have HR:Hid (ip s ho h=c):=by show _=_;unfold ip;rw[←Hc.out,hq];rfl
    go_wp2_with fail
    refine bodyPost_ret (v:=hpv c) (by simp[results,Tryz.results151,go_sem,hpv,z0,z1,z2,z3,z4,z5]) rfl ⟨by rw[HR.out];rfl,?_⟩
    exact aV HY6.out.2.2 Hn3.out _ _ _ _ _ _
 ·simp only[QA,QB,QC]
  go_simp
  refine hK.out _ _ (aa (ak (aq _ _) _) (ag _)) (fun hHeld3=>?_)
  clear hK K9
  (try go_frame)
  obtain⟨X,hX⟩:∃ X,X=(V.alloc (.cells #[.int .u8 0,.int .i64 0,.int .i64 0,.int .i64 0,.bool false,.bool false] 43)).drew:=⟨_,rfl⟩
  rw[←hX]
  have HB0:Hid (HpB X V.heap.size Hp.none):=by rw[hX];exact ai V _ _
  have HGX:Hid (V.grownBy X none):=by rw[hX];exact aa (ak (aq _ _) _) (ag _)
  obtain⟨n4,h4⟩:∃ n4,n4=V.heap.size:=⟨_,rfl⟩
  have Hn4:Hid (V.heap.size≤n4):=by rw[h4];exact Nat.le_refl _
  rw[←h4] at HB0 ⊢
  clear hX h4
  refine QR 0 rfl (fun K9 hK=>?_)
  go_simp
  go_at_call 211
  refine(jx _).mono ?_
  rintro e4 wm ⟨rfl,hm4,g4⟩
  have HGm:Hid (V.grownBy wm none):=aa (HGX.out) g4
  refine hK.out _ _ HGm.out (fun hHeld2=>?_)
  clear hK K9
  (try go_frame)
  obtain⟨mb,hmb⟩:∃ mb,mb=(X).heap.size:=⟨_,rfl⟩
  have hm5:wm.heap[(X).heap.size]?=some (.map chE 4):=hm4
  rw[←hmb] at hm5
  (first | rw[←hmb] | rw[show (X).drew.heap.size=mb from hmb.symm])
  have HM:Hid (wm.heap[mb]?=some (.map chE 4)):=hm5
  clear hmb hm4 hm5
  have HBm:Hid (HpB wm n4 Hp.none):=ae g4 HB0.out (by simp)
  refine iI (S':=fun w'=>V.grownBy w' none∧w'.heap[mb]?=some (.map chE 4)) (fun _ h=>h.1) _ _ _ _ ?_
  have hHeldM:V.grownBy wm none∧wm.heap[mb]?=some (.map chE 4):=⟨HGm.out,HM.out⟩
  refine QT 4 rfl (by intro w0 hSw;have hlm:=hlk w0 mb hSw.2;go_simp;try with_reducible rfl) ?_
  go_frame
  refine QR 11 rfl (fun K9 hK=>?_)
  go_simp
  go_at_call 212
  refine(CHo _ (HGm.out)).mono ?_
  rintro e5 w5 ⟨rfl,g5⟩
  have HG5:Hid (V.grownBy w5 none):=aa (HGm.out) g5
  have HM5:Hid (w5.heap[mb]?=some (.map chE 4)):=ae g5 (HM.out) (by simp)
  have HBX0:Hid (HpB w5 n4 Hp.none):=ae g5 HBm.out (by simp)
  refine hK.out _ _ ⟨HG5.out,HM5.out⟩ (fun hHeld2=>?_)
  clear hK K9
  (try go_frame)
  refine QR 12 rfl (fun K9 hK=>?_)
  go_simp
  go_at_fn fN
  refine(CCh _).mono ?_
  rintro e7 w7 ⟨rfl,g7⟩
  have HG7:Hid (V.grownBy w7 none):=aa (HG5.out) g7
  have HM7:Hid (w7.heap[mb]?=some (.map chE 4)):=ae g7 (HM5.out) (by simp)
  have HBX1:Hid (HpB w7 n4 Hp.none):=ae g7 HBX0.out (by simp)
  refine hK.out _ _ ⟨HG7.out,HM7.out⟩ (fun hHeld2=>?_)
  clear hK K9
  (try go_frame)
  have HBX:Hid (HpB w7 n4 Hp.none):=HBX1.out
  obtain⟨q0,q1,q2,q3,q4,q5⟩:=di HBX.out
  have qf:=fun i=>ao HBX.out i
  refine QR 14 rfl (fun K9 hK=>?_)
  go_simp
  refine hK.out _ _ ⟨aV (HG7.out) Hn4.out _ _ _ _ _ _,?_⟩ (fun hHeld3=>?_)
  ·exact ae (aW _ _ _ _ _ _ _ _) (HM7.out) (fun q=>by have:=Option.some.inj q;subst this;have h9:=HBX.out;unfold HpB at h9;rw[HM7.out] at h9;simp at h9)
  clear hK K9
  (try go_frame)
  refine QD ?_
  obtain⟨Y,hY⟩:∃ Y,Y=(((((w7.setCell ⟨n4,0,none⟩ (.int .u8 c.vb)).setCell ⟨n4,1,none⟩ (.int .i64 c.on)).setCell ⟨n4,2,none⟩ (.int .i64 c.ct)).setCell ⟨n4,3,none⟩ (.int .i64 c.ho)).setCell ⟨n4,4,none⟩ (.bool c.vn)).setCell ⟨n4,5,none⟩ (.bool c.dr):=⟨_,rfl⟩
  rw[←hY]
  have HY:Hid (HpB Y n4 c∧V.grownBy Y none):=⟨by rw[hY];exact dZ c HBX.out,by rw[hY];exact aV (HG7.out) Hn4.out _ _ _ _ _ _⟩
  clear hY hHeld q0 q1 q2 q3 q4 q5 qf HBX
  obtain⟨y0,y1,y2,y3,y4,y5⟩:=aL HY.out.1
  go_wp2_with fail
  refine(CN _).mono ?_
  rintro e6 w6 ⟨rfl,g6⟩
  have HY6:Hid (HpB w6 n4 c∧HpB w6 n3 Hp.none∧w.grownBy w6 none):=⟨ae g6 HY.out.1 (by simp),ae (aa HY.out.2 g6) HZ.out (by simp),aa HG.out (aa HY.out.2 g6)⟩
  clear g6 y0 y1 y2 y3 y4 y5
  obtain⟨y0,y1,y2,y3,y4,y5⟩:=aL HY6.out.1
  obtain⟨z0,z1,z2,z3,z4,z5⟩:=di HY6.out.2.1
  have zf:=fun i=>ao HY6.out.2.1 i
  cases hq:cG c with
  | true =>
   have HR:Hid (ip s ho h=Hp.none):=by show _=_;unfold ip;rw[←Hc.out,hq];rfl
   go_wp2_with fail
   refine bodyPost_ret (v:=hpv Hp.none) (by simp[results,Tryz.results151,go_sem,hpv,Hp.none,z0,z1,z2,z3,z4,z5]) rfl ⟨by rw[HR.out];rfl,?_⟩
   exact aV HY6.out.2.2 Hn3.out _ _ _ _ _ _
  | false =>
   have HR:Hid (ip s ho h=c):=by show _=_;unfold ip;rw[←Hc.out,hq];rfl
   go_wp2_with fail
   refine bodyPost_ret (v:=hpv c) (by simp[results,Tryz.results151,go_sem,hpv,z0,z1,z2,z3,z4,z5]) rfl ⟨by rw[HR.out];rfl,?_⟩
   exact aV HY6.out.2.2 Hn3.out _ _ _ _ _ _
end Go.Proofs.YthfjgpjcepmnmaaGreat
