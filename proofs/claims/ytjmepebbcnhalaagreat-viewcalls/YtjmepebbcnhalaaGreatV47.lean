import Derived.Test.YtjmepebbcnhalaaGreatV46
namespace Go.Proofs.YtjmepebbcnhalaaGreat
set_option maxRecDepth 100000
set_option maxHeartbeats 4000000
open Go.RowKit Go.Shelf
variable {w wr wr' w':World} {n0 B j base g o b:Nat} {bp:Option Addr} {vt vp v:Value} {X G fs:List Fe} {m k x r n:Int} {cd:Int→Hd×List Pt} {ts:List Th} {R:List Rw} {L acc:List Se} {e:Se} {s:Sd} {pf:Th→Fe} {me:Th→Int}
structure AbT (w wr:World) (n0 n1:Nat) (bp:Option Addr) (vt vp va vb vc:Value) (B:Nat) (v7 v8:Value) (X:List Fe) (P:List Sd):Prop where
 sb:ScB wr n0 bp vt vp
 fb:FlB wr n1 va vb vc
 li:bF wr B v7 P
 fe:aQ wr 0 v8 X
 gr:w.grownBy wr none
theorem AbT.keep {n1:Nat} {va vb vc:Value} {v7 v8:Value} {P:List Sd} (h:AbT w wr n0 n1 bp vt vp va vb vc B v7 v8 X P) (g:wr.grownBy wr' none):AbT w wr' n0 n1 bp vt vp va vb vc B v7 v8 X P:=⟨ag g h.sb (by simp),ag g h.fb (by simp),aw h.li g,aw h.fe g,ae h.gr g⟩
theorem AbT.more {n1:Nat} {va vb vc:Value} {v7 v8 v9:Value} {P Q:List Sd} (h:AbT w wr n0 n1 bp vt vp va vb vc B v7 v8 X P) (g:wr.grownBy wr' v7.ownBlock) (hB:w.heap.size≤B) (o:bF wr' B v9 Q):AbT w wr' n0 n1 bp vt vp va vb vc B v9 v8 X Q:=⟨ag g h.sb (dv h.li h.sb (by decide)),ag g h.fb (dv h.li h.fb (by decide)),o,bK h.fe h.li (by decide) g,ar h.gr g (fun x e=>Ql hB (World.ownsRow.lt h.li x e).1)⟩
theorem AbT.turn {n1:Nat} {va vb vc:Value} {B':Nat} {v7 v8 v9:Value} {Y:List Fe} {P:List Sd} (h:AbT w wr n0 n1 bp vt vp va vb vc B v7 v8 X P) (g:wr.grownBy wr' none) (o:aQ wr' B' v9 Y):AbT w wr' n0 n1 bp vt vp va vb vc B v7 v9 Y P:=⟨ag g h.sb (by simp),ag g h.fb (by simp),aw h.li g,aP o (Q0 _),ae h.gr g⟩
theorem Ak (h:Onc m cd ts G R k X L acc) (ha:acc.length=j) (hj:j<(du R G k).2.length):(du R G k).2.getD j Se.none∈cx R (aq R G) k∧∃ L' acc',Onc m cd ts G R k (bu X R (aG R (aq R X) ((du R G k).2.getD j Se.none))) L' acc'∧acc'.length=j+1:=by
 have h0:0<L.length:=by
  obtain⟨B,e1,hB⟩:=iV R _ (aq R X) L acc rfl
  rw[h.all,e1,Qa] at hj
  omega
 have hn:=h.now h0
 rw[ha] at hn
 rw[hn]
 refine⟨h.mem _ (by rw[aB (h.lt h0)];exact List.getElem_mem _),_,_,h.step h0,?_⟩
 rw[Qa,List.length_singleton,ha]
theorem B8 {E:List Se} {P Q:List Sd} {b:Bool} (hj:j<E.length) (he:e=E.getD j Se.none) (h:P++(fS R x X (E.drop j)).map Se.s=Q) (hb:b=decide (x∈cJ R (aH R (aq R X) e))):(if b then P++[e.s] else P)++(fS R x (bu X R (aG R (aq R X) e)) (E.drop (j+1))).map Se.s=Q:=by
 rw[EJ hj,←he] at h
 rw[←h,hb]
 by_cases q:x∈cJ R (aH R (aq R X) e)
 ·rw[if_pos q,Qy q]
  simp
 ·rw[if_neg q,Qx q]
  simp
theorem iW {P:List Sd} (h:w.ownsRow base 64 10 v (P.length+1) (sdR.cs P++sdc s)):bF w base v (P++[s]):=az.more h rfl
theorem uW (bp pt pp pg pa pc:Option Addr) (ct np cp cg na ca nc cc:Nat) (r n:Int) (cd:Int→Hd×List Pt) (ts:List Th) (pf:Th→Fe) (mf:Fe→Th→Fe) (me:Th→Int) (x k:Int) (G:List Fe) (R:List Rw) (BG BE:Nat) (w:World) (I:VIn w (.pointer bp) (.slice pt ts.length ct) r n cd ts pf mf me) (hT:Tab n cd ts G R) (hr:r=0) (OG:aQ w BG (.slice pg G.length cg) G) (OE:bF w BE (.slice pa na ca) ((du R G k).2.map Se.s)):Calls Tryz.prog 91 #[.agg #[.pointer bp,.slice pt ts.length ct,.slice pp np cp],.int .i64 x,.agg #[.slice pg G.length cg,.slice pa na ca,.slice pc nc cc]] w fun e w'=>∃ v,e=.returned v∧bF w' w.heap.size v ((fS R x G (du R G k).2).map Se.s)∧w.grownBy w' none:=by
 subst hr
 have hE64:(du R G k).2.length≤64:=by rw[sw];exact hT.effs (I.few4 rfl) _ _
 obtain⟨E,hE⟩:=Qe ((du R G k).2)
 have HE:Hid (E=(du R G k).2∧E.length≤64):=⟨hE,by rw[hE];exact hE64⟩
 rw[←hE] at OE ⊢
 have hna:na=E.length:=by obtain⟨a,b,e⟩:=az.Own.form OE;injection e with _ e _;rw[e,List.length_map]
 subst hna
 obtain⟨i0,hi,hz0,hz1,hz2⟩:=info_parts Tryz.linfoD
 obtain⟨W1,hW1⟩:=Qe ((w.alloc (.cells #[.pointer bp,.slice pt ts.length ct,.slice pp np cp] 159)).alloc (.cells #[.slice pg G.length cg,.slice pa E.length ca,.slice pc nc cc] 165))
 have HG1:Hid (w.grownBy W1 none):=by rw[hW1];exact al QG _
 have HS1:Hid (ScB W1 w.heap.size bp (.slice pt ts.length ct) (.slice pp np cp)):=by rw[hW1];exact jh _ _ _ _ _
 have HF1:Hid (FlB W1 (w.heap.size+1) (.slice pg G.length cg) (.slice pa E.length ca) (.slice pc nc cc)):=by rw[hW1];exact aO _ _ _ _
 have HI:Hid (VIn w (.pointer bp) (.slice pt ts.length ct) 0 n cd ts pf mf me):=I
 have HT:Hid (Tab n cd ts G R):=hT
 have HOG:Hid (aQ w BG (.slice pg G.length cg) G):=OG
 have HOE:Hid (sdR.At w (.slice pa E.length ca) (E.map Se.s)):=az.Own.at OE
 obtain⟨Q,hQ⟩:=Qe ((fS R x G E).map Se.s)
 have HQ:Hid (Q=(fS R x G E).map Se.s):=hQ
 rw[←hQ]
 clear I hT OG OE hE hE64 hQ
 go_enter Tryz.func91,Tryz.ntmps91
 go_upto_region 1 with fail
 rw[←hW1]
 clear hW1
 obtain⟨n0,hn0⟩:=Qe (w.heap.size)
 obtain⟨n1,hn1⟩:=Qe (n0+1)
 simp only[←hn0,←hn1] at HS1 HF1 ⊢
 clear hn0 hn1
 obtain⟨f0,f1,f2⟩:=mH HF1.out
 go_wp2_with fail
 clear f0 f1 f2
 go_loopw [7,8,10,11,12,18] (fun x7 x8 _ _ _ y wr=>∃ (j:Nat) (pL:Option Addr) (nL cL:Nat) (pF:Option Addr) (cF:Nat) (P:List Sd) (X:List Fe),j≤E.length∧y=.int .i64 (j:Int)∧x7=.slice pL nL cL∧x8=.slice pF G.length cF∧Hid (AbT w wr n0 n1 bp (.slice pt ts.length ct) (.slice pp np cp) (.slice pg G.length cg) (.slice pa E.length ca) (.slice pc nc cc) w.heap.size (.slice pL nL cL) (.slice pF G.length cF) X P)∧Hid (∃ L acc,Onc n cd ts G R k X L acc∧acc.length=j)∧Hid (P++(fS R x X (E.drop j)).map Se.s=Q∧P.length≤j)) (fun _ _ _ _ _ y _=>E.length - (intOf y).toNat)
 case atStart=>exact⟨0,none,0,0,pg,cg,[],G,Q0 _,rfl,rfl,rfl,⟨HS1.out,HF1.out,az.Own.nil _ _ _ _,aw (aP HOG.out (Q0 _)) HG1.out,HG1.out⟩,⟨_,_,Onc.start HT.out,rfl⟩,HQ.out.symm,Qj _⟩
 case round =>
  obtain⟨j,pL,nL,cL,pF,cF,P,X,hj,rfl,rfl,rfl,HA,HO,HP⟩:=hrel
  obtain⟨U,hU⟩:=Qe (wr)
  subst hU
  by_cases hlt:j<E.length
  ·obtain⟨L,acc,hOn,hac⟩:=HO.out
   have hon:=Ak hOn hac (by rw[←HE.out.1];exact hlt)
   rw[←HE.out.1] at hon
   obtain⟨e,he⟩:=Qe (E.getD j Se.none)
   rw[←he] at hon
   have HOn:Hid (Tab n cd ts X R∧e∈cx R (aq R G) k∧∃ L' acc',Onc n cd ts G R k (bu X R (aG R (aq R X) e)) L' acc'∧acc'.length=j+1):=⟨hOn.tab,hon.1,hon.2⟩
   have HXl:Hid (X.length=G.length):=hOn.len
   obtain⟨gE,oE,cE,eE,hRE⟩:=kN (HOE.out.keep HA.out.gr) hlt
   cases eE
   rw[←he] at hRE
   obtain⟨x0,x1,x2,x3,x4,x5,x6,x7,x8,x9⟩:=bN hRE
   obtain⟨Y,hY⟩:=Qe (U.alloc (.cells #[.int .i64 e.s.th,.int .i64 e.s.pl,.int .u8 e.s.wh.wn,.int .u8 e.s.wh.vb,.int .u8 e.s.wh.wm,.int .i64 e.s.wh.ct,.int .u8 e.s.wh.su,.int .u8 e.s.wh.tr,.int .u8 e.s.wh.mr,.string e.s.wh.nm] 64))
   have HGY:Hid (U.grownBy Y none):=by rw[hY];exact QG
   have HB:Hid (SdB Y U.heap.size e.s):=by rw[hY];exact ak _ _ _
   have HAY:Hid (AbT w Y n0 n1 bp (.slice pt ts.length ct) (.slice pp np cp) (.slice pg G.length cg) (.slice (some ⟨gE,oE,none⟩) E.length ca) (.slice pc nc cc) w.heap.size (.slice pL nL cL) (.slice pF G.length cF) X P):=HA.out.keep HGY.out
   have HNb:Hid (some U.heap.size≠(Value.slice pL nL cL).ownBlock):=fun q=>Nat.lt_irrefl _ (World.ownsRow.lt HA.out.li _ q.symm).2
   have hlt':(j:Int)<E.length:=Int.ofNat_lt.2 hlt
   have hwk:=aK (k:=j) (by have:=HE.out.2;omega)
   have Hlt:Hid (j<E.length∧e=E.getD j Se.none):=⟨hlt,he⟩
   have HM:Hid (E.length - (intOf (.int .i64 ((j:Int)+1))).toNat<E.length - (intOf (.int .i64 (j:Int))).toNat):=bj hlt
   clear hlt hj hRE he hon hOn hac HO HA L acc
   go_upto_region 6 with fail
   rw[←hY]
   clear hY x0 x1 x2 x3 x4 x5 x6 x7 x8 x9
   obtain⟨nb,hnb⟩:=Qe (U.heap.size)
   rw[←hnb] at HB HNb ⊢
   clear hnb
   obtain⟨s0,s1,s2⟩:=eo HAY.out.sb
   obtain⟨x0,x1,x2,x3,x4,x5,x6,x7,x8,x9⟩:=bS HB.out
   have C6:=wC _ _ (.slice pF G.length cF) 0 n cd ts X e.s Y (HI.out.li Y _ X HAY.out.gr (az.Own.at HAY.out.fe) (by rw[←HOn.out.1.len];exact Ql (HI.out.few rfl) (by decide)))
   unfold sdv at C6
   go_wp2_with fail
   refine(C6.mono fun e' w' z=>HOn.out.1.abt HOn.out.2.1 z).mono ?_
   rintro e6 w6 ⟨p6,c6,rfl,g6,o6⟩
   obtain⟨l,hl⟩:=Qe (cJ R (aH R (aq R X) e))
   rw[←hl] at o6 ⊢
   have hl16:l.length≤16:=by rw[hl];exact Ql (gW _ _ _) HOn.out.1.few
   have C7:=pM (.slice p6 l.length c6) Y.heap.size l x w6 o6 (by omega)
   obtain⟨b,hb⟩:=Qe (decide (x∈l))
   rw[←hb] at C7
   have HSt:Hid ((if b then P++[e.s] else P)++(fS R x (bu X R (aG R (aq R X) e)) (E.drop (j+1))).map Se.s=Q):=B8 Hlt.out.1 Hlt.out.2 HP.out.1 (by rw[hb,hl])
   have HA6:Hid (AbT w w6 n0 n1 bp (.slice pt ts.length ct) (.slice pp np cp) (.slice pg G.length cg) (.slice (some ⟨gE,oE,none⟩) E.length ca) (.slice pc nc cc) w.heap.size (.slice pL nL cL) (.slice pF G.length cF) X P):=HAY.out.keep g6
   have HB6:Hid (SdB w6 nb e.s):=ag g6 HB.out (by simp)
   clear C6 g6 o6 hl hl16 hb s0 s1 s2 x0 x1 x2 x3 x4 x5 x6 x7 x8 x9 HAY HB
   go_wp2_with fail
   refine C7.mono ?_
   rintro e7 w7 ⟨rfl,ew7⟩
   rw[ew7]
   clear ew7 w7 C7
   cases b with
   | false =>
    have HSn:Hid (P++(fS R x (bu X R (aG R (aq R X) e)) (E.drop (j+1))).map Se.s=Q∧P.length≤j+1):=⟨HSt.out,Nat.le_succ_of_le HP.out.2⟩
    go_upto_region 9 with fail
    have C9:=mT _ _ (.slice pF G.length cF) 0 n cd ts X e.s w6 (HI.out.li w6 _ X HA6.out.gr (az.Own.at HA6.out.fe) (by rw[←HOn.out.1.len];exact Ql (HI.out.few rfl) (by decide)))
    unfold sdv at C9
    obtain⟨s0,s1,s2⟩:=eo HA6.out.sb
    obtain⟨x0,x1,x2,x3,x4,x5,x6,x7,x8,x9⟩:=bS HB6.out
    go_wp2_with fail
    refine(C9.mono fun e' w' z=>HOn.out.1.app HOn.out.2.1 z).mono ?_
    rintro e9 w9 ⟨p9,c9,rfl,g9,o9⟩
    have hlm:(bu X R (aG R (aq R X) e)).length=G.length:=by rw[fY];exact HXl.out
    rw[hlm] at o9 ⊢
    have HA9:Hid (AbT w w9 n0 n1 bp (.slice pt ts.length ct) (.slice pp np cp) (.slice pg G.length cg) (.slice (some ⟨gE,oE,none⟩) E.length ca) (.slice pc nc cc) w.heap.size (.slice pL nL cL) (.slice p9 G.length c9) (bu X R (aG R (aq R X) e)) P):=HA6.out.turn g9 o9
    clear C9 g9 o9 hlm s0 s1 s2 x0 x1 x2 x3 x4 x5 x6 x7 x8 x9
    go_wp2_with fail
    go_roundw
    case rel=>exact⟨j+1,pL,nL,cL,p9,c9,P,bu X R (aG R (aq R X) e),Hlt.out.1,by first | rfl | (rw[hwk];rfl) | go_num,rfl,rfl,HA9,HOn.out.2.2,HSn.out⟩
    case measure=>first | exact HM.out | (rw[hwk];exact HM.out)
   | true =>
    have HSn:Hid ((P++[e.s])++(fS R x (bu X R (aG R (aq R X) e)) (E.drop (j+1))).map Se.s=Q∧(P++[e.s]).length≤j+1):=⟨HSt.out,by rw[Qa,List.length_singleton];exact Nat.succ_le_succ HP.out.2⟩
    have HLn:Hid (P.length+1≤maxLen∧(P.length+1)*56≤140737488355328):=ge (by have:=HP.out.2;have:=HE.out.2;have:=Hlt.out.1;omega)
    obtain⟨x0,x1,x2,x3,x4,x5,x6,x7,x8,x9⟩:=bS HB6.out
    go_upto_region 9 with (at_builtin;refine bE (by rfl) (.tmp 35) (.tmp 37) 30 rfl w.heap.size 64 i0 _ 10 56 Tryz.underlying30 hi hz0 hz1 hz2 rfl (by decide) _ P.length (sdR.cs P) rfl (World.ownsRow.alloc HA6.out.li _) _ 1 (sdc e.s) rfl (mU w6 e.s) (fz _) HLn.out.1 HLn.out.2 (by rw[World.size_alloc];exact Nat.le_succ_of_le HA6.out.gr.size) ?_;intro v8 w8 o8 g8 _;have HO8:Hid _:=o8;have HG8:Hid _:=g8;clear o8 g8)
    clear x0 x1 x2 x3 x4 x5 x6 x7 x8 x9
    have HO8':Hid (w8.ownsRow w.heap.size 64 10 v8 (P.length+1) (sdR.cs P++sdc e.s)):=HO8.out
    obtain⟨p8,c8,ev8,-⟩:=br HO8'.out
    subst ev8
    have HA7:=HA6.out.keep (World.grownBy_alloc w6 (.cells (sdc e.s).toArray 64) none)
    have HA8:Hid (AbT w w8 n0 n1 bp (.slice pt ts.length ct) (.slice pp np cp) (.slice pg G.length cg) (.slice (some ⟨gE,oE,none⟩) E.length ca) (.slice pc nc cc) w.heap.size (.slice p8 (P.length+1) c8) (.slice pF G.length cF) X (P++[e.s])):=HA7.more HG8.out (Qj _) (iW HO8'.out)
    have HB8:Hid (SdB w8 nb e.s):=ag HG8.out (ag (World.grownBy_alloc w6 (.cells (sdc e.s).toArray 64) none) HB6.out (by simp)) HNb.out
    clear HA7 HO8 HG8 HO8' HA6 HB6
    have C9:=mT _ _ (.slice pF G.length cF) 0 n cd ts X e.s w8 (HI.out.li w8 _ X HA8.out.gr (az.Own.at HA8.out.fe) (by rw[←HOn.out.1.len];exact Ql (HI.out.few rfl) (by decide)))
    unfold sdv at C9
    obtain⟨s0,s1,s2⟩:=eo HA8.out.sb
    obtain⟨x0,x1,x2,x3,x4,x5,x6,x7,x8,x9⟩:=bS HB8.out
    go_wp2_with fail
    refine(C9.mono fun e' w' z=>HOn.out.1.app HOn.out.2.1 z).mono ?_
    rintro e9 w9 ⟨p9,c9,rfl,g9,o9⟩
    have hlm:(bu X R (aG R (aq R X) e)).length=G.length:=by rw[fY];exact HXl.out
    rw[hlm] at o9 ⊢
    have HA9:Hid (AbT w w9 n0 n1 bp (.slice pt ts.length ct) (.slice pp np cp) (.slice pg G.length cg) (.slice (some ⟨gE,oE,none⟩) E.length ca) (.slice pc nc cc) w.heap.size (.slice p8 (P.length+1) c8) (.slice p9 G.length c9) (bu X R (aG R (aq R X) e)) (P++[e.s])):=HA8.out.turn g9 o9
    clear C9 g9 o9 hlm s0 s1 s2 x0 x1 x2 x3 x4 x5 x6 x7 x8 x9
    go_wp2_with fail
    go_roundw
    case rel=>exact⟨j+1,p8,(P.length+1),c8,p9,c9,(P++[e.s]),bu X R (aG R (aq R X) e),Hlt.out.1,by first | rfl | (rw[hwk];rfl) | go_num,rfl,rfl,HA9,HOn.out.2.2,HSn.out⟩
    case measure=>first | exact HM.out | (rw[hwk];exact HM.out)
  ·obtain rfl:j=E.length:=Nat.le_antisymm hj (Nat.le_of_not_lt hlt)
   have HX:Hid (bF U w.heap.size (.slice pL nL cL) Q∧w.grownBy U none):=⟨by rw[←HP.out.1,List.drop_length];show bF _ _ _ (P++[]);rw[List.append_nil];exact HA.out.li,HA.out.gr⟩
   clear hj hlt
   go_wp2_with fail
   go_ret
   exact⟨_,rfl,HX.out⟩
theorem Ap (h:vkE r n cd ts (aR pf (ts.take 2048)) me=0) (hx:onT ts x=true) (hT:Tab n cd ts (aR pf ts) R):vWh r n cd ts pf me x=whU R x (aR pf ts) 5:=by
 unfold vWh
 rw[h,hx,if_pos Bu,hT.tab]
theorem EH (h:vqE (vkE r n cd ts (aR pf (ts.take 2048)) me) (onT ts x) 6≠0):vWh r n cd ts pf me x=[]:=if_neg h
def gK (w:World) (r n:Int) (cd:Int→Hd×List Pt) (ts:List Th) (pf:Th→Fe) (me:Th→Int) (x:Int) (e:Ending) (w':World):Prop:=∃ v,e=.returned (.tuple #[v,.int .i64 (vqE (vkE r n cd ts (aR pf (ts.take 2048)) me) (onT ts x) 6)])∧w.grownBy w' none∧bF w' w.heap.size v ((vWh r n cd ts pf me x).map Se.s)
theorem gK.no {y:Int} (h:vqE (vkE r n cd ts (aR pf (ts.take 2048)) me) (onT ts x) 6=y) (hy:y≠0) (g:w.grownBy w' none):gK w r n cd ts pf me x (.returned (.tuple #[.slice none 0 0,.int .i64 y])) w':=⟨_,by rw[h],g,by rw[EH (by rw[h];exact hy)];exact az.Own.nil _ _ _ _⟩
theorem ED (h:Tab n cd ts fs R) (hc:∀ c,(cd c).2.length≤4) (x:Int) (k:Nat):(whU R x fs k).length≤64*k:=Ql (xe R x fs k).length_le (oo h hc k)
theorem Dv (h:Tab n cd ts fs R) (hc:∀ c,(cd c).2.length≤4) (x:Int) (k:Nat):(fS R x (clF R fs k) (apK R fs k)).length≤64:=Ql (rn R x _ _).length_le (qM h hc k)
theorem Ar (bp:Option Addr) (vt:Value) (r n:Int) (cd:Int→Hd×List Pt) (ts:List Th) (pf:Th→Fe) (mf:Fe→Th→Fe) (me:Th→Int) (x:Int) (w:World) (I:VIn w (.pointer bp) vt r n cd ts pf mf me):Calls Tryz.prog 32 #[.pointer bp,vt,.int .i64 x] w (gK w r n cd ts pf me x):=by
 have HLk:=kX bp vt r n cd ts pf mf me w I
 unfold iX at HLk
 obtain⟨pt,ct,rfl,hcap⟩:=I.cap
 have HI:Hid (VIn w (.pointer bp) (.slice pt ts.length ct) r n cd ts pf mf me):=I
 clear I hcap
 go_enter Tryz.func32,Tryz.ntmps32
 go_wp2_with fail
 refine HLk.mono ?_
 rintro e2 w2 ⟨bq,p1,m1,c1,p2,m2,c2,rfl,g2,h2⟩
 obtain⟨q,hq⟩:=Qe (vkE r n cd ts (aR pf (ts.take 2048)) me)
 rw[←hq] at h2 ⊢
 have Hq:Hid (q=vkE r n cd ts (aR pf (ts.take 2048)) me):=hq
 clear HLk hq
 obtain⟨W3,hW3⟩:=Qe (w2.alloc (.cells #[.pointer bq,.slice p1 m1 c1,.slice p2 m2 c2] 159))
 have HG3:Hid (w.grownBy W3 none):=by rw[hW3];exact al g2 _
 have HS3:Hid (ScB W3 w2.heap.size bq (.slice p1 m1 c1) (.slice p2 m2 c2)):=by rw[hW3];exact ak _ _ _
 have H2:Hid (q=0→bq=bp∧Value.slice pt ts.length ct=.slice p1 m1 c1∧aQ W3 w.heap.size (.slice p2 m2 c2) (aR pf ts)):=fun z=>by
  obtain⟨a,b,c⟩:=h2 z
  exact⟨a,b,aw c (by rw[hW3];exact QG)⟩
 clear g2 h2
 go_upto_region 2 with fail
 rw[←hW3]
 clear hW3
 obtain⟨ns,hns⟩:=Qe (w2.heap.size)
 simp only[←hns] at HS3 ⊢
 clear hns
 by_cases hq0:q=0
 ·have e1:(q != 0)=false:=by simpa using hq0
  have hv0:vkE r n cd ts (aR pf (ts.take 2048)) me=0:=Hq.out.symm.trans hq0
  obtain⟨hr0,⟨R,hR⟩,-⟩:=rD hv0
  have hts:ts.length≤2048:=HI.out.few hr0
  rw[List.take_of_length_le hts] at hR
  obtain⟨eb,ev,hO⟩:=H2.out hq0
  subst eb
  injection ev with ev1 ev2 ev3
  subst ev1
  subst ev3
  rw[←ev2] at HS3 ⊢
  obtain⟨L,hL⟩:=Qe (ts.length)
  have hm2:m2=ts.length:=by obtain⟨a,b,e⟩:=az.Own.form hO;injection e with _ e _;rw[e,eQ]
  obtain⟨F,hF⟩:=Qe (aR pf ts)
  have HF:Hid (F=aR pf ts∧F.length=ts.length):=⟨hF,by rw[hF,eQ]⟩
  rw[←hF] at hO hR
  rw[hm2] at hO HS3 ⊢
  have HO:Hid (aQ W3 w.heap.size (.slice p2 ts.length c2) F):=hO
  have HT:Hid (Tab n cd ts F R∧r=0∧ts.length≤2048∧vkE r n cd ts (aR pf (ts.take 2048)) me=0):=⟨hR,hr0,hts,hv0⟩
  clear H2 hq0 hv0 hR hr0 hts hm2 hO hF ev2 m1 m2 hL L
  obtain⟨s0,s1,s2⟩:=eo HS3.out
  have C0:=rR bq pt p2 ct ts.length c2 ts x W3 (HI.out.th.keep HG3.out)
  obtain⟨b,hb⟩:=Qe (onT ts x)
  rw[←hb] at C0
  have Hb:Hid (b=onT ts x):=hb
  clear hb
  go_wp2_with fail
  refine C0.mono ?_
  rintro e3 w3 ⟨rfl,g3⟩
  have HG:Hid (w.grownBy w3 none):=ae HG3.out g3
  have HS:Hid (ScB w3 ns bq (.slice pt ts.length ct) (.slice p2 ts.length c2)):=ag g3 HS3.out (by simp)
  have HO3:Hid (aQ w3 w.heap.size (.slice p2 ts.length c2) F):=aw HO.out g3
  clear C0 g3 s0 s1 s2 HS3 HO e1
  cases b with
  | false =>
   have HX:Hid (vqE (vkE r n cd ts (aR pf (ts.take 2048)) me) (onT ts x) 6=6):=by show _=_;rw[HT.out.2.2.2,←Hb.out];rfl
   go_wp2_with fail
   go_ret2
   exact gK.no HX.out (by decide) HG.out
  | true =>
   obtain⟨s0,s1,s2⟩:=eo HS.out
   have C4:=iy bq pt p2 ts.length ct ts.length c2 w3
   go_wp2_with fail
   refine C4.mono ?_
   rintro e4 w4 ⟨gk,gf,gs,rfl,h4,g4,hk4,hf4⟩
   have HC0:Hid (ClS w w4 w.heap.size gk gf gs bq (.slice pt ts.length ct) (.slice p2 ts.length c2) ((0:Nat):Int) (.slice p2 ts.length c2) (clF R F 0)):=⟨h4,aw HO3.out g4,ae HG.out g4,Ql HG.out.size hk4,Ql HG.out.size hf4⟩
   have HS4:Hid (ScB w4 ns bq (.slice pt ts.length ct) (.slice p2 ts.length c2)):=ag g4 HS.out (by simp)
   clear C4 h4 g4 hk4 hf4 s0 s1 s2
   unfold clV
   obtain⟨i10,hi10,hza10,hzb10,hzc10⟩:=info_parts Tryz.linfoD
   go_wp2_with fail
   go_loopw [10,29] (fun x10 y wr=>∃ (j:Nat) (p:Option Addr) (c B:Nat) (ps:Option Addr) (nS cS:Nat),j≤5∧y=.int .i64 (j:Int)∧x10=.slice ps nS cS∧Hid (ClS w wr B gk gf gs bq (.slice pt ts.length ct) (.slice p2 ts.length c2) (j:Int) (.slice p ts.length c) (clF R F j))∧Hid (bF wr w.heap.size (.slice ps nS cS) ((whU R x F j).map Se.s))∧Hid (ScB wr ns bq (.slice pt ts.length ct) (.slice p2 ts.length c2))) (fun _ y _=>5 - (intOf y).toNat)
   case atStart=>exact⟨0,p2,c2,w.heap.size,none,0,0,Q0 _,rfl,rfl,HC0,az.Own.nil _ _ _ _,HS4.out⟩
   case round =>
    obtain⟨j,p,c,B,ps,nS,cS,hj,rfl,rfl,HC,HD,HSU⟩:=hrel
    obtain⟨U,hU⟩:=Qe (wr)
    subst hU
    clear HC0 HS4
    by_cases hlt:j<5
    ·have hlf:(clF R F j).length=ts.length:=by rw[ix];exact HF.out.2
     have HLf:Hid ((clF R F j).length=ts.length):=hlf
     obtain⟨D,hD⟩:=Qe (U.drew)
     have gD:U.grownBy D none:=by rw[hD];exact ai _
     have HCD:Hid (ClS w D B gk gf gs bq (.slice pt ts.length ct) (.slice p2 ts.length c2) (j:Int) (.slice p ts.length c) (clF R F j)):=HC.out.keep gD
     have HDD:Hid (bF D w.heap.size (.slice ps nS cS) ((whU R x F j).map Se.s)):=aw HD.out gD
     have HSD:Hid (ScB D ns bq (.slice pt ts.length ct) (.slice p2 ts.length c2)):=ag gD HSU.out (by simp)
     have C5:=jA bq pt p2 ct ts.length c2 0 n cd ts pf mf me w D B gk gf gs (j:Int) (.slice p ts.length c) (clF R F j) R (HT.out.2.1 ▸ HI.out) HCD.out (HT.out.1.cl j) rfl (by omega) (by omega)
     unfold qH at C5
     rw[hlf] at C5
     have hlt':(j:Int)<5:=by omega
     have hwk:=aK (k:=j) (by omega)
     have Hlt:Hid (j<5):=hlt
     have HM:Hid (5 - (intOf (.int .i64 ((j:Int)+1))).toNat<5 - (intOf (.int .i64 (j:Int))).toNat):=bj hlt
     obtain⟨A,hA⟩:=Qe ((whU R x F j).map Se.s)
     obtain⟨E,hE⟩:=Qe ((fS R x (clF R F j) (du R (clF R F j) ((j:Int)+1)).2).map Se.s)
     have HEe:Hid (E=(fS R x (clF R F j) (du R (clF R F j) ((j:Int)+1)).2).map Se.s):=hE
     have HAE:Hid ((whU R x F (j+1)).map Se.s=A++E∧A.length≤320∧E.length≤64):=by
      refine⟨?_,?_,?_⟩
      ·rw[hA,hE];show (whU R x F j++fS R x (clF R F j) (apK R F j)).map Se.s=_;rw[List.map_append];rfl
      ·rw[hA,List.length_map];have:=ED HT.out.1 (HI.out.few4 HT.out.2.1) x j;omega
      ·rw[hE,List.length_map];exact Dv HT.out.1 (HI.out.few4 HT.out.2.1) x j
     rw[←hA] at HDD
     clear hlt hj hlf HC HD hA hE gD
     go_upto_region 10 with fail
     refine wp_region_held_drew (S:=fun w'=>ScB w' ns bq (.slice pt ts.length ct) (.slice p2 ts.length c2)) (by kernel_rfl) (by rw[←hD];exact HSD.out) (fun hHeld=>?_)
     rw[←hD]
     refine QZ 0 rfl ?_
     go_frame
     refine QT 1 rfl (by intro w0 hSw;obtain⟨s0,s1,s2⟩:=eo hSw;go_simp;try with_reducible rfl) ?_
     go_frame
     refine QZ 2 rfl ?_
     go_frame
     refine QZ 3 rfl ?_
     go_frame
     refine QR 4 rfl (fun K hK=>?_)
     go_simp
     go_at_call 156
     rw[←hD]
     refine(C5).mono ?_
     rintro e5 w5 ⟨q1,n1,d1,q2,d2,rfl,h5,hD5,hG5,tw5⟩
     have HC5:Hid (ClS w w5 D.heap.size gk gf gs bq (.slice pt ts.length ct) (.slice p2 ts.length c2) ((j+1:Nat):Int) (.slice q2 ts.length d2) (clF R F (j+1))):=h5
     have HS5:Hid (ScB w5 ns bq (.slice pt ts.length ct) (.slice p2 ts.length c2)):=tw5.keep HCD.out.cl HSD.out (by decide) (by decide)
     have HD5:Hid (bF w5 w.heap.size (.slice ps nS cS) A):=tw5.own HCD.out.cl HDD.out (by decide) (by decide)
     have C6:=uW bq pt p2 p q1 q2 ct ts.length c2 c n1 d1 ts.length d2 0 n cd ts pf mf me x ((j:Int)+1) (clF R F j) R B D.heap.size w5 ((HT.out.2.1 ▸ HI.out:VIn w (.pointer bq) (.slice pt ts.length ct) 0 n cd ts pf mf me).keep HC5.out.gr) (HT.out.1.cl j) rfl (by rw[HLf.out];exact hG5) hD5
     rw[←HEe.out,HLf.out] at C6
     clear C5 h5 hD5 hG5 tw5
     refine hK.out _ _ (HS5.out) (fun hHeld2=>?_)
     clear hK K
     (try go_frame)
     refine QR 5 rfl (fun K hK=>?_)
     go_simp
     go_at_call 91
     refine(C6).mono ?_
     rintro e6 w6 ⟨v6,rfl,o6,g6⟩
     obtain⟨p6,c6,rfl⟩:=az.Own.form o6
     have HC6:Hid (ClS w w6 D.heap.size gk gf gs bq (.slice pt ts.length ct) (.slice p2 ts.length c2) ((j+1:Nat):Int) (.slice q2 ts.length d2) (clF R F (j+1))):=HC5.out.keep g6
     have HS6:Hid (ScB w6 ns bq (.slice pt ts.length ct) (.slice p2 ts.length c2)):=ag g6 HS5.out (by simp)
     have HD6:Hid (bF w6 w.heap.size (.slice ps nS cS) A):=aw HD5.out g6
     have HR6:Hid (Src w6 (.slice p6 E.length c6) E.length 10 (sdR.cs E)):=az.At.src (az.Own.at o6)
     have HL6:Hid (A.length+E.length≤maxLen∧(A.length+E.length)*56≤140737488355328):=xj HAE.out.2.1 HAE.out.2.2
     clear C6 o6 g6
     refine hK.out _ _ (HS6.out) (fun hHeld2=>?_)
     clear hK K
     (try go_frame)
     refine QR 6 rfl (fun K9 hK=>?_)
     refine Cx (.tmp 31) (.tmp 36) 30 rfl w.heap.size 64 i10 _ 10 56 Tryz.underlying30 hi10 hza10 hzb10 hzc10 rfl (by decide) (.slice ps nS cS) A.length (sdR.cs A) rfl HD6.out (.slice p6 E.length c6) E.length (sdR.cs E) rfl HR6.out (sdR.ones E) HL6.out.1 HL6.out.2 HC6.out.gr.size ?_
     intro v7 w7 o7 g7 _
     have HO7:Hid (w7.ownsRow w.heap.size 64 10 v7 (A.length+E.length) (sdR.cs A++sdR.cs E)):=o7
     have HC7:Hid (ClS w w7 D.heap.size gk gf gs bq (.slice pt ts.length ct) (.slice p2 ts.length c2) ((j+1:Nat):Int) (.slice q2 ts.length d2) (clF R F (j+1))):=HC6.out.block HD6.out g7 (Qj _)
     have HS7:Hid (ScB w7 ns bq (.slice pt ts.length ct) (.slice p2 ts.length c2)):=ag g7 HS6.out (dv HD6.out HS6.out (by decide))
     clear o7 g7
     refine hK.out _ _ (HS7.out) (fun hHeld3=>?_)
     clear hK K9
     (try go_frame)
     refine QZ 7 rfl ?_
     go_frame
     refine QD ?_
     obtain⟨p7,c7,ev7,-⟩:=br HO7.out
     subst ev7
     have HD7:Hid (bF w7 w.heap.size (.slice p7 (A.length+E.length) c7) ((whU R x F (j+1)).map Se.s)):=by show bF _ _ _ _;rw[HAE.out.1];exact AP HO7.out
     go_wp2_with fail
     go_roundw
     case rel=>exact⟨j+1,q2,d2,D.heap.size,p7,A.length+E.length,c7,Hlt.out,by first | rfl | (rw[hwk];rfl) | go_num,rfl,HC7,HD7,HS7⟩
     case measure=>first | exact HM.out | (rw[hwk];exact HM.out)
    ·obtain rfl:j=5:=Nat.le_antisymm hj (Nat.le_of_not_lt hlt)
     have HX:Hid (bF U w.heap.size (.slice ps nS cS) ((vWh r n cd ts pf me x).map Se.s)∧w.grownBy U none):=⟨by rw[Ap HT.out.2.2.2 Hb.out.symm (HF.out.1 ▸ HT.out.1),←HF.out.1];exact HD.out,HC.out.gr⟩
     clear hj hlt
     go_wp2_with fail
     go_ret2
     exact⟨_,by rw[HT.out.2.2.2,←Hb.out];rfl,HX.out.2,HX.out.1⟩
 ·have e1:(q != 0)=true:=by simpa using hq0
  have HX:Hid (vqE (vkE r n cd ts (aR pf (ts.take 2048)) me) (onT ts x) 6=q):=by show _=_;rw[←Hq.out,qK hq0]
  have Hq0:Hid (q≠0):=hq0
  clear hq0
  go_wp2_with fail
  go_ret2
  exact gK.no HX.out Hq0.out HG3.out
structure Sp where
 s:Sd
 ns:List Int
 pa:Option Addr
 ca:Nat
def Sp.u (x:Sp):Value:=.slice x.pa x.ns.length x.ca
def spc (x:Sp):List Value:=[.int .i64 x.s.th,.int .i64 x.s.pl,.int .u8 x.s.wh.wn,.int .u8 x.s.wh.vb,.int .u8 x.s.wh.wm,.int .i64 x.s.wh.ct,.int .u8 x.s.wh.su,.int .u8 x.s.wh.tr,.int .u8 x.s.wh.mr,.string x.s.wh.nm,x.u]
theorem tM (x:Sp):∀ v∈spc x,v.oneCell'=true:=fun v h=>by
 simp only[spc,List.mem_cons,List.not_mem_nil,or_false] at h
 rcases h with h | h | h | h | h | h | h | h | h | h | h <;> (subst h;rfl)
def spR:az Sp:=⟨11,spc,fun _=>rfl,tM,by decide⟩
theorem tN {x:Sp} (h:w.rangeAt g o (spc x)):w.cell? ⟨g,o,none⟩=some (.int .i64 x.s.th)∧w.cell? ⟨g,o+1,none⟩=some (.int .i64 x.s.pl)∧w.cell? ⟨g,o+2,none⟩=some (.int .u8 x.s.wh.wn)∧w.cell? ⟨g,o+3,none⟩=some (.int .u8 x.s.wh.vb)∧w.cell? ⟨g,o+4,none⟩=some (.int .u8 x.s.wh.wm)∧w.cell? ⟨g,o+5,none⟩=some (.int .i64 x.s.wh.ct)∧w.cell? ⟨g,o+6,none⟩=some (.int .u8 x.s.wh.su)∧w.cell? ⟨g,o+7,none⟩=some (.int .u8 x.s.wh.tr)∧w.cell? ⟨g,o+8,none⟩=some (.int .u8 x.s.wh.mr)∧w.cell? ⟨g,o+9,none⟩=some (.string x.s.wh.nm)∧w.cell? ⟨g,o+10,none⟩=some x.u :=
 ⟨h 0 _ rfl,h 1 _ rfl,h 2 _ rfl,h 3 _ rfl,h 4 _ rfl,h 5 _ rfl,h 6 _ rfl,h 7 _ rfl,h 8 _ rfl,h 9 _ rfl,h 10 _ rfl⟩
structure SpO (w:World) (b:Nat) (v:Value) (L:List Sp):Prop where
 o:spR.Own 173 w b v L
 l:∀ x∈L,aV w b x.u x.ns∧x.ns.length≤16
theorem SpO.nil (w:World) (b:Nat):SpO w b (.slice none 0 0) []:=⟨az.Own.nil _ _ _ _,fun x h=>by cases h⟩
theorem SpO.keep {L:List Sp} (h:SpO w b v L) (g:w.grownBy w' none):SpO w' b v L:=⟨aw h.o g,fun x hx=>⟨aw (h.l x hx).1 g,(h.l x hx).2⟩⟩
theorem SpO.there {L:List Sp} (h:SpO w b v L) {j:Nat} (hj:j<L.length):∃ g c,v=.slice (some ⟨g,0,none⟩) L.length c∧w.rangeAt g (j*11) (spc L[j]):=by
 obtain⟨g,c,e,-,-,-,-,hc⟩:=cH h.o (by omega)
 refine⟨g,c,e,fun i u hu=>?_⟩
 have hi:i<11:=(Qh hu).1
 rw[(hc (j*11+i) (by show _<_*11;omega)).1]
 exact(spR.at' (Qg hj) i hi).trans hu
def ruL (R:List Rw):List Fe→List Se→List (Sd×List Int)
 | _,[]=>[]
 | fs,e :: l=>(e.s,cJ R (aH R (aq R fs) e)) :: ruL R (bu fs R (aG R (aq R fs) e)) l
def ruU (R:List Rw) (fs:List Fe):Nat→List (Sd×List Int)
 | 0=>[]
 | k+1=>ruU R fs k++ruL R (clF R fs k) (apK R fs k)
theorem Ej (R:List Rw):∀ (l:List Se) (fs:List Fe),(ruL R fs l).map Prod.fst=l.map Se.s
 | [],_=>rfl
 | e :: l,_=>congrArg (e.s :: ·) (Ej R l _)
theorem AK (R:List Rw) (fs:List Fe):∀ k,(ruU R fs k).map Prod.fst=(stU R fs k).map Se.s
 | 0=>rfl
 | k+1=>by
  unfold ruU stU
  rw[List.map_append,List.map_append,AK R fs k,Ej]
theorem xd (R:List Rw) (fs:List Fe) (k:Nat):(ruU R fs k).length=(stU R fs k).length:=by
 have:=congrArg List.length (AK R fs k)
 rwa [List.length_map,List.length_map] at this
def whO (n:Int) (L:List (Sd×List Int)):List Sd:=(L.filter fun q=>decide (n∈q.2)).map Prod.fst
theorem wN (n:Int) (A B:List (Sd×List Int)):whO n (A++B)=whO n A++whO n B:=by
 unfold whO
 rw[List.filter_append,List.map_append]
theorem wM (R:List Rw) (n:Int):∀ (l:List Se) (fs:List Fe),whO n (ruL R fs l)=(fS R n fs l).map Se.s
 | [],_=>rfl
 | e :: l,fs=>by
  unfold fS
  rw[List.map_append,←wM R n l]
  unfold whO
  rw[show ruL R fs (e :: l)=(e.s,cJ R (aH R (aq R fs) e)) :: ruL R (bu fs R (aG R (aq R fs) e)) l from rfl,List.filter_cons]
  by_cases h:n∈cJ R (aH R (aq R fs) e)
  ·rw[if_pos (show decide (n∈(e.s,cJ R (aH R (aq R fs) e)).2)=true from Qy h),if_pos h]
   rfl
  ·rw[if_neg (show ¬decide (n∈(e.s,cJ R (aH R (aq R fs) e)).2)=true from fun z=>h (of_decide_eq_true z)),if_neg h]
   rfl
theorem xB (R:List Rw) (n:Int) (fs:List Fe):∀ k,whO n (ruU R fs k)=(whU R n fs k).map Se.s
 | 0=>rfl
 | k+1=>by
  unfold ruU whU
  rw[wN,List.map_append,xB R n fs k,wM]
theorem Fy {E:List Se} (hj:j<E.length):ruL R X (E.drop j)=((E.getD j Se.none).s,cJ R (aH R (aq R X) (E.getD j Se.none))) :: ruL R (bu X R (aG R (aq R X) (E.getD j Se.none))) (E.drop (j+1)):=by
 rw[List.drop_eq_getElem_cons hj,aB hj]
 rfl
theorem A9 (h:Onc m cd ts G R k X L acc) (ha:acc.length=(du R G k).2.length):X=nR R G k:=by
 have h0:L=[]:=by
  obtain⟨B,e1,hB⟩:=iV R _ (aq R X) L acc rfl
  rw[h.all,e1,Qa] at ha
  exact List.length_eq_zero_iff.1 (by omega)
 subst h0
 exact h.end.symm
def Sp.q (x:Sp):Sd×List Int:=(x.s,x.ns)
def RsP (w:World) (p:Pl) (gs:List Ent) (ts:List Th) (e:Ending) (w':World):Prop:=∃ v L,e=.returned (.tuple #[v,.int .i64 (vkR p gs ts)])∧w.grownBy w' none∧SpO w' w.heap.size v L∧(¬vkR p gs ts=0→L=[]∧v=.slice none 0 0)∧(vkR p gs ts=0→L.length≤320∧∀ R,Tab (gs.length:Int) (atC p gs) ts (aR (pfR p gs) ts) R→L.map Sp.q=ruU R (aR (pfR p gs) ts) 5)
end Go.Proofs.YtjmepebbcnhalaaGreat
