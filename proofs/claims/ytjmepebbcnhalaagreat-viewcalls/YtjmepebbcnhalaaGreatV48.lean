import Derived.Test.YtjmepebbcnhalaaGreatV47
namespace Go.Proofs.YtjmepebbcnhalaaGreat
set_option maxRecDepth 100000
set_option maxHeartbeats 4000000
open Go.RowKit Go.Shelf
variable {w wr wr' w':World} {B j b i:Nat} {vf v v':Value} {X G:List Fe} {R:List Rw} {e:Se} {m k n:Int} {cd:Int→Hd×List Pt} {ts:List Th} {p:Pl} {gs:List Ent}
theorem Tryz.linfoP:(Tryz.prog.info? 173).map (fun i=>(i.zero,i.size,i.bytes))=some (some (.agg #[.int .i64 0,.int .i64 0,.int .u8 0,.int .u8 0,.int .u8 0,.int .i64 0,.int .u8 0,.int .u8 0,.int .u8 0,.string ⟨#[]⟩,.slice none 0 0]),11,80):=by kernel_rfl
structure StT (w wr:World) (B:Nat) (vo:Value) (L:List Sp) (vf:Value) (X:List Fe) (ve:Value) (E:List Sd):Prop where
 sp:SpO wr B vo L
 fe:aQ wr B vf X
 es:bF wr B ve E
 gr:w.grownBy wr none
theorem StT.keep {vo:Value} {L:List Sp} {ve:Value} {E:List Sd} (h:StT w wr B vo L vf X ve E) (g:wr.grownBy wr' none):StT w wr' B vo L vf X ve E:=⟨h.sp.keep g,aw h.fe g,aw h.es g,ae h.gr g⟩
theorem StT.turn {B':Nat} {vo:Value} {L:List Sp} {vf':Value} {Y:List Fe} {ve:Value} {E:List Sd} (h:StT w wr B vo L vf X ve E) (g:wr.grownBy wr' none) (hB:B≤B') (o:aQ wr' B' vf' Y):StT w wr' B vo L vf' Y ve E:=⟨h.sp.keep g,aP o hB,aw h.es g,ae h.gr g⟩
theorem SpO.more {L:List Sp} {x:Sp} (h:SpO w B v L) (g:w.grownBy w' v.ownBlock) (o:w'.ownsRow B 173 11 v' (L.length+1) (spR.cs L++spc x)) (hx:aV w B x.u x.ns∧x.ns.length≤16):SpO w' B v' (L++[x]):=by
 have k:∀ y:Sp,aV w B y.u y.ns→aV w' B y.u y.ns:=fun y q=>bK q h.o (by decide) g
 refine⟨az.more o rfl,fun y hy=>?_⟩
 rcases List.mem_append.1 hy with q | q
 ·exact⟨k y (h.l y q).1,(h.l y q).2⟩
 ·rw[List.mem_singleton.1 q]
  exact⟨k x hx.1,hx.2⟩
theorem StT.more {vo vo':Value} {L:List Sp} {x:Sp} {ve:Value} {E:List Sd} (h:StT w wr B vo L vf X ve E) (g:wr.grownBy wr' vo.ownBlock) (hB:w.heap.size≤B) (o:wr'.ownsRow B 173 11 vo' (L.length+1) (spR.cs L++spc x)) (hx:aV wr B x.u x.ns∧x.ns.length≤16):StT w wr' B vo' (L++[x]) vf X ve E:=⟨h.sp.more g o hx,bK h.fe h.sp.o (by decide) g,bK h.es h.sp.o (by decide) g,ar h.gr g (fun y e=>Ql hB (World.ownsRow.lt h.sp.o y e).1)⟩
theorem uc {n:Nat} (h:n≤400):n≤maxLen∧n*80≤140737488355328:=by unfold maxLen;omega
theorem DE {E:List Se} {P Q:List (Sd×List Int)} {l:List Int} (hj:j<E.length) (he:e=E.getD j Se.none) (hl:l=cJ R (aH R (aq R X) e)) (h:P++ruL R X (E.drop j)=Q):(P++[(e.s,l)])++ruL R (bu X R (aG R (aq R X) e)) (E.drop (j+1))=Q:=by
 rw[Fy hj,←he,←hl] at h
 rw[←h,List.append_assoc]
 rfl
theorem Fo (hT:Tab m cd ts G R) (hc:RgC cd) (he:e∈cx R (aq R G) k):InI e.s.wh.ct:=by
 obtain⟨h1,_,j,h2,_,h3,_⟩:=iC he
 obtain⟨i,t,ht,_,e1⟩:=hT.row (List.getElem_mem h1)
 rw[h3,aB h1,e1,List.getD_eq_getElem?_getD]
 cases e2:(cd t.card).2[j]? with
 | none=>exact oz
 | some q=>exact(hc t.card).2 q (Qm e2)
theorem ER (_:Tab m cd ts X R) (hc:RgC cd) (hX:RgL X) (hG:Tab m cd ts G R) (he:e∈cx R (aq R G) k):RgL (bu X R (aG R (aq R X) e)):=vy hX (tq (wU hX) (Fo hG hc he)) _
theorem kC (ok:Nat→Prop) (r:Nat) (vr:Value) (p:Pl) (gs:List Ent) (v:Value) (ts:List Th) (w:World) (B:RD ok w r vr p gs) (A:thR.At w v ts) (hc:RgC (atC p gs)):Calls Tryz.prog 94 #[.pointer (some ⟨r,0,none⟩),v] w (RsP w p gs ts):=by
 have C1:=kA ok r vr p gs v ts w B A hc
 unfold StP at C1
 obtain⟨i0,hi,hz0,hz1,hz2⟩:=info_parts Tryz.linfoP
 have HB:Hid (RD ok w r vr p gs∧thR.At w v ts∧RgC (atC p gs)):=⟨B,A,hc⟩
 obtain⟨x,hx⟩:=Qe (vkR p gs ts)
 have HX:Hid (x=vkR p gs ts):=hx
 rw[←hx] at C1
 unfold RsP
 clear B A hc hx
 go_enter Tryz.func94,Tryz.ntmps94
 go_wp2_with fail
 refine C1.mono ?_
 rintro e1 w1 ⟨v1,rfl,g1,h0,h1⟩
 have HG1:Hid (w.grownBy w1 none):=g1
 by_cases hx:x=0
 ·have HO:Hid (aQ w1 w.heap.size v1 (aR (pfR p gs) ts)):=h1 hx
  have HV:Hid (vkR p gs ts=0):=HX.out.symm.trans hx
  subst hx
  clear C1 g1 h0 h1
  obtain⟨hs,hl,⟨R,hT⟩,ho⟩:=wE HV.out
  obtain⟨F,hF⟩:=Qe (aR (pfR p gs) ts)
  have HF:Hid (F=aR (pfR p gs) ts∧RgL F):=⟨hF,by rw[hF];exact qx HB.out.2.2 ts⟩
  rw[←hF] at hT HO
  have HT:Hid (Tab (gs.length:Int) (atC p gs) ts F R∧p.shut=true∧ts.length≤2048∧bg p ts.length=0):=⟨hT,hs,hl,lK hl hs⟩
  have H4:Hid (∀ c,(atC p gs c).2.length≤4):=HB.out.1.four
  have HAll:Hid (∀ X vf (j:Nat),w.grownBy X none→j<5→feR.At X vf (clF R F j)→Calls Tryz.prog 16 #[.pointer (some ⟨r,0,none⟩),v,vf,.int .i64 ((j:Int)+1)] X (fG X 0 (gs.length:Int) (atC p gs) ts (clF R F j) ((j:Int)+1))):=fun X vf j g hj G=>HT.out.2.2.2 ▸ sk ok r vr p gs v vf ts _ _ X (HB.out.1.keep g) (HB.out.2.1.keep g) G (tw HT.out.1 HB.out.2.2 HF.out.2 j).tr
  have HAb:Hid (∀ X vf Y (s:Sd),w.grownBy X none→feR.At X vf Y→TrI Y→Calls Tryz.prog 74 #[.pointer (some ⟨r,0,none⟩),v,vf,sdv s] X (jc X 0 (gs.length:Int) (atC p gs) ts Y s)):=fun X vf Y s g G t=>HT.out.2.2.2 ▸ ud ok r vr p gs v vf ts Y s X (HB.out.1.keep g) (HB.out.2.1.keep g) G t
  have HAp:Hid (∀ X vf Y (s:Sd),w.grownBy X none→feR.At X vf Y→TrI Y→Calls Tryz.prog 76 #[.pointer (some ⟨r,0,none⟩),v,vf,sdv s] X (ju X 0 (gs.length:Int) (atC p gs) ts Y s)):=fun X vf Y s g G t=>HT.out.2.2.2 ▸ uD ok r vr p gs v vf ts Y s X (HB.out.1.keep g) (HB.out.2.1.keep g) G t
  have HQ:Hid (∀ L:List Sp,L.map Sp.q=ruU R F 5→∀ R',Tab (gs.length:Int) (atC p gs) ts (aR (pfR p gs) ts) R'→L.map Sp.q=ruU R' (aR (pfR p gs) ts) 5):=fun L h R' h'=>by
   rw[←HF.out.1] at h' ⊢
   have z:=HT.out.1.tab
   rw[h'.tab] at z
   cases z
   exact h
  clear hs hl hT ho hF
  go_wp2_with fail
  go_loopw [6,8,9,10,11,12,13,14,15] (fun f o n _ _ _ _ _ _ wr=>∃ (j:Nat) (L:List Sp) (pf:Option Addr) (mf cf:Nat) (po:Option Addr) (mo co:Nat),f=.slice pf mf cf∧o=.slice po mo co∧n=.int .i64 ((j:Int)+1)∧j≤5∧Hid (aQ wr w.heap.size (.slice pf mf cf) (clF R F j)∧SpO wr w.heap.size (.slice po mo co) L∧w.grownBy wr none)∧Hid (L.map Sp.q=ruU R F j)) (fun _ _ n _ _ _ _ _ _ _=>6 - (intOf n).toNat)
  case atStart =>
   obtain⟨a,b,e⟩:=az.Own.form HO.out
   exact⟨0,[],a,_,b,none,0,0,e,rfl,rfl,Q0 _,⟨by rw[←e];exact HO.out,SpO.nil _ _,HG1.out⟩,rfl⟩
  case round =>
   obtain⟨j,L,pf,mf,cf,po,mo,co,rfl,rfl,rfl,hj,HS,HL⟩:=hrel
   obtain⟨U,hU⟩:=Qe (wr)
   subst hU
   by_cases hlt:j<5
   ·have d1:decide ((j:Int)+1≤5)=true:=Qy (by omega)
    have hwk:wrap64 ((j:Int)+1+1)=(j:Int)+1+1:=by unfold wrap64;omega
    have Hj:Hid (j<5∧L.length≤64*j):=⟨hlt,by
     have z:=congrArg List.length HL.out
     rw[List.length_map,xd] at z
     rw[z]
     exact oo HT.out.1 H4.out j⟩
    obtain⟨G,hG⟩:=Qe (clF R F j)
    obtain⟨E,hE⟩:=Qe ((du R G ((j:Int)+1)).2)
    have HGE:Hid (G=clF R F j∧E=(du R G ((j:Int)+1)).2∧Tab (gs.length:Int) (atC p gs) ts G R∧E.length≤64∧RgL G):=⟨hG,hE,by rw[hG];exact HT.out.1.cl j,by rw[hE,hG];exact qM HT.out.1 H4.out j,by rw[hG];exact tw HT.out.1 HB.out.2.2 HF.out.2 j⟩
    have C2:=HAll.out U _ j HS.out.2.2 hlt (az.Own.at HS.out.1)
    unfold fG at C2
    clear hlt hj hG hE
    go_wp2_with fail
    refine C2.mono ?_
    rintro e2 w2 ⟨p2,m2,c2,p3,m3,c3,rfl,g2,-,q2⟩
    have HO2:Hid (bF w2 U.heap.size (.slice p3 m3 c3) (E.map Se.s)):=by
     have z:=(q2 R trivial ⟨by omega,by have:=Hj.out.1;omega⟩ (HT.out.1.cl j).tab).2
     rw[←HGE.out.1,←HGE.out.2.1] at z
     exact z
    have hm3:m3=E.length:=by obtain⟨a,b,e⟩:=az.Own.form HO2.out;injection e with _ e _;rw[e,List.length_map]
    subst hm3
    have HS2:Hid (StT w w2 w.heap.size (.slice po mo co) L (.slice pf mf cf) G (.slice p3 E.length c3) (E.map Se.s)):=⟨HS.out.2.1.keep g2,by rw[HGE.out.1];exact aw HS.out.1 g2,aP HO2.out HS.out.2.2.size,ae HS.out.2.2 g2⟩
    clear C2 g2 q2 d1
    go_wp2_with fail
    go_loopw [6,8,13,14,15] (fun f o n _ _ wr=>∃ (i:Nat) (L:List Sp) (X:List Fe) (pf:Option Addr) (mf cf:Nat) (po:Option Addr) (mo co:Nat),f=.slice pf mf cf∧o=.slice po mo co∧n=.int .i64 (i:Int)∧i≤E.length∧Hid (StT w wr w.heap.size (.slice po mo co) L (.slice pf mf cf) X (.slice p3 E.length c3) (E.map Se.s))∧Hid ((∃ M acc,Onc (gs.length:Int) (atC p gs) ts G R ((j:Int)+1) X M acc∧acc.length=i)∧RgL X)∧Hid (L.map Sp.q++ruL R X (E.drop i)=ruU R F (j+1)∧L.length≤64*j+i)) (fun _ _ n _ _ _=>E.length - (intOf n).toNat)
    case atStart=>exact⟨0,L,G,pf,mf,cf,po,mo,co,rfl,rfl,rfl,Q0 _,HS2.out,⟨⟨_,_,Onc.start HGE.out.2.2.1,rfl⟩,HGE.out.2.2.2.2⟩,by unfold ruU apK;rw[HL.out,←HGE.out.1,←HGE.out.2.1];rfl,Hj.out.2⟩
    case round =>
     obtain⟨i,L,X,pf,mf,cf,po,mo,co,rfl,rfl,rfl,hi2,HA,HO,HP⟩:=hrel
     obtain⟨U,hU⟩:=Qe (wr)
     subst hU
     clear HS2 HO2
     by_cases hlt:i<E.length
     ·obtain⟨⟨M,acc,hOn,hac⟩,hRX⟩:=HO.out
      have hon:=Ak hOn hac (by rw[←HGE.out.2.1];exact hlt)
      rw[←HGE.out.2.1] at hon
      obtain⟨e,he⟩:=Qe (E.getD i Se.none)
      rw[←he] at hon
      have HOn:Hid (Tab (gs.length:Int) (atC p gs) ts X R∧e∈cx R (aq R G) ((j:Int)+1)∧(∃ M acc,Onc (gs.length:Int) (atC p gs) ts G R ((j:Int)+1) (bu X R (aG R (aq R X) e)) M acc∧acc.length=i+1)∧RgL (bu X R (aG R (aq R X) e))):=⟨hOn.tab,hon.1,hon.2,ER hOn.tab HB.out.2.2 hRX (HGE.out.2.2.1) hon.1⟩
      obtain⟨gE,oE,cE,eE,hRE⟩:=kN (az.Own.at HA.out.es) hlt
      cases eE
      rw[←he] at hRE
      obtain⟨x0,x1,x2,x3,x4,x5,x6,x7,x8,x9⟩:=bN hRE
      have C6:=HAb.out U (.slice pf mf cf) X e.s HA.out.gr (az.Own.at HA.out.fe) hRX.tr
      unfold sdv at C6
      have hlt':(i:Int)<E.length:=Int.ofNat_lt.2 hlt
      have hwi:=aK (k:=i) (by have:=HGE.out.2.2.2.1;omega)
      have Hlt:Hid (i<E.length∧e=E.getD i Se.none):=⟨hlt,he⟩
      have HM:Hid (E.length - (intOf (.int .i64 ((i:Int)+1))).toNat<E.length - (intOf (.int .i64 (i:Int))).toNat):=bj hlt
      have HOx:Hid (TrI X):=hRX.tr
      clear hlt hi2 hRE he hon hOn hac hRX HO M acc
      go_wp2_with fail
      refine(C6.mono fun e' w' z=>HOn.out.1.abt HOn.out.2.1 z).mono ?_
      rintro e6 w6 ⟨p6,c6,rfl,g6,o6⟩
      obtain⟨l,hl⟩:=Qe (cJ R (aH R (aq R X) e))
      rw[←hl] at o6 ⊢
      have HSt:Hid ((L.map Sp.q++[(e.s,l)])++ruL R (bu X R (aG R (aq R X) e)) (E.drop (i+1))=ruU R F (j+1)):=DE Hlt.out.1 Hlt.out.2 hl HP.out.1
      have Hx:Hid (aV w6 w.heap.size (.slice p6 l.length c6) l∧l.length≤16):=⟨aP o6 HA.out.gr.size,by rw[hl];exact Ql (gW _ _ _) HOn.out.1.few⟩
      have HA6:Hid (StT w w6 w.heap.size (.slice po mo co) L (.slice pf mf cf) X (.slice (some ⟨gE,oE,none⟩) E.length c3) (E.map Se.s)):=HA.out.keep g6
      clear C6 g6 o6 hl HA x0 x1 x2 x3 x4 x5 x6 x7 x8 x9
      obtain⟨gE',oE',cE',eE,hRE⟩:=kN (az.Own.at HA6.out.es) Hlt.out.1
      cases eE
      rw[←Hlt.out.2] at hRE
      obtain⟨x0,x1,x2,x3,x4,x5,x6,x7,x8,x9⟩:=bN hRE
      have HLn:Hid (L.length+1≤maxLen∧(L.length+1)*80≤140737488355328):=uc (by have:=HP.out.2;have:=HGE.out.2.2.2.1;have:=Hlt.out.1;have:=Hj.out.1;omega)
      obtain⟨sp,hsp⟩:∃ sp:Sp,sp=⟨e.s,l,p6,c6⟩:=⟨_,rfl⟩
      have Hsp:Hid (spc sp=[.int .i64 e.s.th,.int .i64 e.s.pl,.int .u8 e.s.wh.wn,.int .u8 e.s.wh.vb,.int .u8 e.s.wh.wm,.int .i64 e.s.wh.ct,.int .u8 e.s.wh.su,.int .u8 e.s.wh.tr,.int .u8 e.s.wh.mr,.string e.s.wh.nm,.slice p6 l.length c6]∧sp.q=(e.s,l)∧sp.u=.slice p6 l.length c6∧sp.ns=l):=by rw[hsp];exact⟨rfl,rfl,rfl,rfl⟩
      clear hRE hsp
      go_upto_region 14 with (at_builtin;refine bE (by rfl) (.tmp 55) (.tmp 62) 169 rfl w.heap.size 173 i0 _ 11 80 Tryz.underlying169 hi hz0 hz1 hz2 rfl (by decide) _ L.length (spR.cs L) rfl (World.ownsRow.alloc HA6.out.sp.o _) _ 1 (spc sp) rfl (by rw[show spc sp=_ from Hsp.out.1];exact jo (ak _ _ _) rfl 1) (tM _) HLn.out.1 HLn.out.2 (by rw[World.size_alloc];exact Nat.le_succ_of_le HA6.out.gr.size) ?_;intro v8 w8 o8 g8 _;have HO8:Hid _:=o8;have HG8:Hid _:=g8;clear o8 g8)
      have HO8':Hid (w8.ownsRow w.heap.size 173 11 v8 (L.length+1) (spR.cs L++spc sp)):=HO8.out
      obtain⟨p8,c8,ev8,-⟩:=br HO8'.out
      subst ev8
      clear x0 x1 x2 x3 x4 x5 x6 x7 x8 x9
      have HA7:=HA6.out.keep (World.grownBy_alloc w6 (.cells #[.int .i64 e.s.th,.int .i64 e.s.pl,.int .u8 e.s.wh.wn,.int .u8 e.s.wh.vb,.int .u8 e.s.wh.wm,.int .i64 e.s.wh.ct,.int .u8 e.s.wh.su,.int .u8 e.s.wh.tr,.int .u8 e.s.wh.mr,.string e.s.wh.nm,.slice p6 l.length c6] 173) none)
      have HA8:Hid (StT w w8 w.heap.size (.slice p8 (L.length+1) c8) (L++[sp]) (.slice pf mf cf) X (.slice (some ⟨gE,oE,none⟩) E.length c3) (E.map Se.s)):=HA7.more HG8.out (Qj _) HO8'.out (by rw[Hsp.out.2.2.1,Hsp.out.2.2.2];exact⟨aw Hx.out.1 QG,Hx.out.2⟩)
      clear HA7 HO8 HG8 HO8' HA6 Hx
      obtain⟨gE',oE',cE',eE,hRE⟩:=kN (az.Own.at HA8.out.es) Hlt.out.1
      cases eE
      rw[←Hlt.out.2] at hRE
      obtain⟨x0,x1,x2,x3,x4,x5,x6,x7,x8,x9⟩:=bN hRE
      have C9:=HAp.out w8 (.slice pf mf cf) X e.s HA8.out.gr (az.Own.at HA8.out.fe) HOx.out
      unfold sdv at C9
      clear hRE
      go_wp2_with fail
      refine(C9.mono fun e' w' z=>HOn.out.1.app HOn.out.2.1 z).mono ?_
      rintro e9 w9 ⟨p9,c9,rfl,g9,o9⟩
      have HA9:Hid (StT w w9 w.heap.size (.slice p8 (L.length+1) c8) (L++[sp]) (.slice p9 (bu X R (aG R (aq R X) e)).length c9) (bu X R (aG R (aq R X) e)) (.slice (some ⟨gE,oE,none⟩) E.length c3) (E.map Se.s)):=HA8.out.turn g9 HA8.out.gr.size o9
      have HPn:Hid ((L++[sp]).map Sp.q++ruL R (bu X R (aG R (aq R X) e)) (E.drop (i+1))=ruU R F (j+1)∧(L++[sp]).length≤64*j+(i+1)):=⟨by rw[List.map_append,List.map_singleton,Hsp.out.2.1];exact HSt.out,by rw[Qa,List.length_singleton];have:=HP.out.2;omega⟩
      clear C9 g9 o9 HA8 x0 x1 x2 x3 x4 x5 x6 x7 x8 x9
      go_wp2_with fail
      go_roundw
      case rel=>exact⟨i+1,L++[sp],bu X R (aG R (aq R X) e),_,_,_,_,_,_,rfl,rfl,by first | rfl | (rw[hwi];rfl) | go_num,Hlt.out.1,HA9,⟨HOn.out.2.2.1,HOn.out.2.2.2⟩,HPn⟩
      case measure=>first | exact HM.out | (rw[hwi];exact HM.out)
     ·obtain rfl:i=E.length:=Nat.le_antisymm hi2 (Nat.le_of_not_lt hlt)
      obtain⟨⟨M,acc,hOn,hac⟩,hRX⟩:=HO.out
      have hX:X=clF R F (j+1):=(A9 hOn (by rw[←HGE.out.2.1];exact hac)).trans (by rw[HGE.out.1];rfl)
      have HX1:Hid (aQ U w.heap.size (.slice pf mf cf) (clF R F (j+1))∧SpO U w.heap.size (.slice po mo co) L∧w.grownBy U none):=⟨by rw[←hX];exact HA.out.fe,HA.out.sp,HA.out.gr⟩
      have HX2:Hid (L.map Sp.q=ruU R F (j+1)):=by
       have z:=HP.out.1
       rw[List.drop_length] at z
       rw[←z]
       exact(List.append_nil _).symm
      clear hi2 hlt hX hOn hac hRX HO HA HP M acc
      go_wp2_with fail
      go_roundw
      case rel =>
       have hc:((j+1:Nat):Int)=(j:Int)+1:=by omega
       exact⟨j+1,L,_,_,_,_,_,_,rfl,rfl,by rw[hc];first | rfl | (rw[hwk];rfl) | go_num,Hj.out.1,HX1,HX2⟩
      case measure =>
       have hj5:=Hj.out.1
       first | (show 6 - ((j:Int)+1+1).toNat<6 - ((j:Int)+1).toNat;omega) | (rw[hwk];show 6 - ((j:Int)+1+1).toNat<6 - ((j:Int)+1).toNat;omega)
   ·obtain rfl:j=5:=Nat.le_antisymm hj (Nat.le_of_not_lt hlt)
    have d1:decide (((5:Nat):Int)+1≤5)=false:=by decide
    have HE5:Hid (L.length≤320):=by
     have z:=congrArg List.length HL.out
     rw[List.length_map,xd] at z
     show _≤_
     rw[z]
     exact oo HT.out.1 H4.out 5
    clear hj hlt
    go_wp2_with fail
    go_ret2
    exact⟨_,L,by rw[HV.out];rfl,HS.out.2.2,HS.out.2.1,fun z=>absurd HV.out z,fun _=>⟨HE5.out,HQ.out L HL.out⟩⟩
 ·have ex:(x != 0)=true:=by simpa using hx
  have HE:Hid (¬vkR p gs ts=0):=fun z=>hx (HX.out.trans z)
  obtain rfl:=h0 hx
  clear C1 g1 h0 h1 hx
  go_wp2_with fail
  go_ret2
  exact⟨_,_,by rw[HX.out];rfl,HG1.out,SpO.nil _ _,fun _=>⟨rfl,rfl⟩,fun z=>absurd z HE.out⟩
theorem SpO.past {b':Nat} {L:List Sp} {P:List Sd} (h:SpO w b v L) (o:bF w b' v' P) (g:w.grownBy w' v'.ownBlock):SpO w' b v L:=⟨bK h.o o (by decide) g,fun x hx=>⟨bK (h.l x hx).1 o (by decide) g,(h.l x hx).2⟩⟩
theorem sp_s (L:List Sp):(L.map Sp.q).map Prod.fst=L.map Sp.s:=by
 rw[List.map_map]
 rfl
theorem Fj {L:List Sp} (h:i<L.length):(L.take (i+1)).map Sp.s=(L.take i).map Sp.s++[L[i].s]:=by
 rw[List.take_add_one,Qg h,List.map_append]
 rfl
theorem Ah {L:List Sp} (h:i<L.length):whO n ((L.take (i+1)).map Sp.q)=whO n ((L.take i).map Sp.q)++(if n∈L[i].ns then [L[i].s] else []):=by
 rw[List.take_add_one,Qg h,List.map_append,wN]
 congr 1
 unfold whO
 show ([L[i].q].filter fun q=>decide (n∈q.2)).map Prod.fst=_
 rw[List.filter_cons]
 by_cases q:n∈L[i].ns
 ·rw[if_pos (show decide (n∈L[i].q.2)=true from Qy q),if_pos q];rfl
 ·rw[if_neg (show ¬decide (n∈L[i].q.2)=true from fun z=>q (of_decide_eq_true z)),if_neg q];rfl
theorem Dc (n:Int) (L:List (Sd×List Int)):(whO n L).length≤L.length:=by
 unfold whO
 rw[List.length_map]
 exact List.length_filter_le _ _
theorem xu (h:vkR p gs ts=0):∃ R,Tab (gs.length:Int) (atC p gs) ts (aR (pfR p gs) ts) R:=(wE h).2.2.1
theorem qw (ok:Nat→Prop) (r:Nat) (vr:Value) (p:Pl) (gs:List Ent) (v:Value) (ts:List Th) (w:World) (B:RD ok w r vr p gs) (A:thR.At w v ts) (hc:RgC (atC p gs)):Calls Tryz.prog 36 #[.pointer (some ⟨r,0,none⟩),v] w (vS w (bg p ts.length) (gs.length:Int) (atC p gs) ts (pfR p gs) meR):=by
 have C1:=kC ok r vr p gs v ts w B A hc
 unfold RsP at C1
 obtain⟨i0,hi,hz0,hz1,hz2⟩:=info_parts Tryz.linfoD
 obtain⟨x,hx⟩:=Qe (vkR p gs ts)
 have HX0:Hid (vkE (bg p ts.length) (gs.length:Int) (atC p gs) ts (aR (pfR p gs) (ts.take 2048)) meR=x):=hx.symm
 obtain⟨S,hS⟩:=Qe ((vSt (bg p ts.length) (gs.length:Int) (atC p gs) ts (pfR p gs) meR).map Se.s)
 have HL:Hid (∀ L:List Sp,(¬vkR p gs ts=0→L=[])→(vkR p gs ts=0→L.length≤320∧∀ R,Tab (gs.length:Int) (atC p gs) ts (aR (pfR p gs) ts) R→L.map Sp.q=ruU R (aR (pfR p gs) ts) 5)→L.map Sp.s=S∧L.length≤320):=fun L h0 h1=>by
  by_cases h:vkR p gs ts=0
  ·obtain⟨R,hR⟩:=xu h
   obtain⟨a,b⟩:=h1 h
   refine⟨?_,a⟩
   rw[←sp_s,b R hR,AK,hS,Ba h hR]
  ·rw[h0 h,hS,Ay h]
   exact⟨rfl,Q0 _⟩
 unfold vS
 rw[←hx] at C1
 clear B A hc
 go_enter Tryz.func36,Tryz.ntmps36
 go_wp2_with fail
 refine C1.mono ?_
 rintro e1 w1 ⟨v1,L,rfl,g1,HS,h0,h1⟩
 have Hl:Hid (L.map Sp.s=S∧L.length≤320):=HL.out L (fun z=>(h0 (by rw[hx];exact z)).1) (fun z=>h1 (by rw[hx];exact z))
 have H1:Hid (SpO w1 w.heap.size v1 L∧w.grownBy w1 none):=⟨HS,g1⟩
 obtain⟨pl,cl,rfl⟩:=az.Own.form HS.o
 have HS0:Hid (S=(vSt (bg p ts.length) (gs.length:Int) (atC p gs) ts (pfR p gs) meR).map Se.s):=hS
 clear C1 g1 HS h0 h1 HL hx hS
 go_wp2_with fail
 go_loopw [8,9] (fun o n wr=>∃ (i:Nat) (po:Option Addr) (mo co:Nat),o=.slice po mo co∧n=.int .i64 (i:Int)∧i≤L.length∧Hid (SpO wr w.heap.size (.slice pl L.length cl) L∧bF wr w.heap.size (.slice po mo co) ((L.take i).map Sp.s)∧w.grownBy wr none)) (fun _ n _=>L.length - (intOf n).toNat)
 case atStart=>exact⟨0,none,0,0,rfl,rfl,Q0 _,H1.out.1,az.Own.nil _ _ _ _,H1.out.2⟩
 case round =>
  obtain⟨i,po,mo,co,rfl,rfl,hi2,HA⟩:=hrel
  obtain⟨U,hU⟩:=Qe (wr)
  subst hU
  clear H1
  by_cases hlt:i<L.length
  ·obtain⟨g,c,e1,R⟩:=HA.out.1.there hlt
   cases e1
   obtain⟨y,hy⟩:=Qe (L[i])
   rw[←hy] at R
   obtain⟨x0,x1,x2,x3,x4,x5,x6,x7,x8,x9,x10⟩:=tN R
   obtain⟨P,hP⟩:=Qe ((L.take i).map Sp.s)
   have HPo:Hid (bF U w.heap.size (.slice po mo co) P):=by rw[hP];exact HA.out.2.1
   have HP:Hid (P++[y.s]=(L.take (i+1)).map Sp.s∧P.length≤320):=⟨by rw[hP,Fj hlt,←hy],by rw[hP,List.length_map,List.length_take];have:=Hl.out.2;omega⟩
   have hmo:mo=P.length:=by obtain⟨a,b,e⟩:=az.Own.form HPo.out;injection e
   subst hmo
   have HLn:Hid (P.length+1≤maxLen∧(P.length+1)*56≤140737488355328):=ge (by have:=HP.out.2;omega)
   have hlt':(i:Int)<L.length:=Int.ofNat_lt.2 hlt
   have hwi:=aK (k:=i) (by have:=Hl.out.2;omega)
   have Hlt:Hid (i<L.length):=hlt
   have HM:Hid (L.length - (intOf (.int .i64 ((i:Int)+1))).toNat<L.length - (intOf (.int .i64 (i:Int))).toNat):=bj hlt
   clear R hy hP hlt hi2
   go_upto_region 5 with (at_builtin;refine bE (by rfl) (.tmp 22) (.tmp 28) 30 rfl w.heap.size 64 i0 _ 10 56 Tryz.underlying30 hi hz0 hz1 hz2 rfl (by decide) _ P.length (sdR.cs P) rfl (World.ownsRow.alloc HPo.out _) _ 1 (sdc y.s) rfl (mU U y.s) (fz _) HLn.out.1 HLn.out.2 (by rw[World.size_alloc];exact Nat.le_succ_of_le HA.out.2.2.size) ?_;intro v8 w8 o8 g8 _;have HO8:Hid _:=o8;have HG8:Hid _:=g8;clear o8 g8)
   have HO8':Hid (w8.ownsRow w.heap.size 64 10 v8 (P.length+1) (sdR.cs P++sdc y.s)):=HO8.out
   obtain⟨p8,c8,ev8,-⟩:=br HO8'.out
   subst ev8
   have gA:U.grownBy (U.alloc (.cells (sdc y.s).toArray 64)) none:=QG
   have HA8:Hid (SpO w8 w.heap.size (.slice (some ⟨g,0,none⟩) L.length cl) L∧bF w8 w.heap.size (.slice p8 (P.length+1) c8) ((L.take (i+1)).map Sp.s)∧w.grownBy w8 none):=⟨(HA.out.1.keep gA).past (aw HPo.out gA) HG8.out,by rw[←HP.out.1];exact iW HO8'.out,ar (ae HA.out.2.2 gA) HG8.out (fun y e=>(World.ownsRow.lt HPo.out y e).1)⟩
   clear HO8 HG8 HO8' HPo gA HA x0 x1 x2 x3 x4 x5 x6 x7 x8 x9 x10
   go_wp2_with fail
   go_roundw
   case rel=>exact⟨i+1,_,_,_,rfl,by first | rfl | (rw[hwi];rfl) | go_num,Hlt.out,HA8⟩
   case measure=>first | exact HM.out | (rw[hwi];exact HM.out)
  ·obtain rfl:i=L.length:=Nat.le_antisymm hi2 (Nat.le_of_not_lt hlt)
   have HX:Hid (bF U w.heap.size (.slice po mo co) S∧w.grownBy U none):=⟨by rw[←Hl.out.1];have:=HA.out.2.1;rwa [List.take_length] at this,HA.out.2.2⟩
   clear hi2 hlt HA
   go_wp2_with fail
   go_ret2
   exact⟨_,by rw[HX0.out];rfl,HX.out.2,by rw[←HS0.out];exact HX.out.1⟩
end Go.Proofs.YtjmepebbcnhalaaGreat
