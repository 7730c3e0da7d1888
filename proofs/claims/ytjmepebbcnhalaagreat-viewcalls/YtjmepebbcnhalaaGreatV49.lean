import Derived.Test.YtjmepebbcnhalaaGreatV48
import Derived.Laws.MakeOwn
import Derived.Deep.AppendLies
namespace Go.Proofs.YtjmepebbcnhalaaGreat
set_option maxRecDepth 100000
set_option maxHeartbeats 4000000
open Go.RowKit Go.Shelf
variable {x:Int} {w w':World} {b base g cap j size ga xc:Nat} {t:Th} {xs:List Value}
theorem Fw {ns:List Int} {k:Nat} (h:x ∉ ns.take k) (hk:k<ns.length) (hx:¬ns.getD k 0=x):x ∉ ns.take (k+1):=fun z=>by
 rw[List.take_add_one,Qg hk,List.mem_append] at z
 rcases z with z | z
 ·exact h z
 ·rw[List.getD_eq_getElem?_getD,Qg hk] at hx
  exact hx (by have q:x=ns[k]:=(by simpa using z);rw[q];rfl)
theorem En {ns:List Int} {k:Nat} (hk:k<ns.length) (hx:ns.getD k 0=x):x∈ns:=by
 rw[←hx,List.getD_eq_getElem?_getD,Qg hk]
 exact List.getElem_mem hk
theorem SpO.ints {v:Value} {L:List Sp} (h:SpO w b v L) {x:Sp} (hx:x∈L) {k:Nat} (hk:k<x.ns.length):∃ g c,x.u=.slice (some ⟨g,0,none⟩) x.ns.length c∧w.cell? ⟨g,k,none⟩=some (.int .i64 (x.ns.getD k 0)):=by
 obtain⟨g,c,e,-,-,-,-,hc⟩:=cH (h.l x hx).1 (by omega)
 exact⟨g,c,e,by rw[(hc k (by omega)).1,Dg _ _ hk]⟩
theorem uX (ok:Nat→Prop) (r:Nat) (vr:Value) (p:Pl) (gs:List Ent) (v:Value) (ts:List Th) (x:Int) (w:World) (B:RD ok w r vr p gs) (A:thR.At w v ts) (hc:RgC (atC p gs)):Calls Tryz.prog 37 #[.pointer (some ⟨r,0,none⟩),v,.int .i64 x] w (gK w (bg p ts.length) (gs.length:Int) (atC p gs) ts (pfR p gs) meR x):=by
 have C1:=kC ok r vr p gs v ts w B A hc
 unfold RsP at C1
 obtain⟨i0,hi,hz0,hz1,hz2⟩:=info_parts Tryz.linfoD
 obtain⟨pt,ct,rfl⟩:=A.form
 have HLn:Hid (ts.length≤maxLen):=by obtain⟨_,_,_,q,_⟩:=A;exact q
 have HA:Hid (thR.At w (.slice pt ts.length ct) ts):=A
 obtain⟨q,hq⟩:=Qe (vkR p gs ts)
 have Hq:Hid (vkE (bg p ts.length) (gs.length:Int) (atC p gs) ts (aR (pfR p gs) (ts.take 2048)) meR=q):=hq.symm
 have HL:Hid (∀ L:List Sp,q=0→onT ts x=true→(vkR p gs ts=0→L.length≤320∧∀ R,Tab (gs.length:Int) (atC p gs) ts (aR (pfR p gs) ts) R→L.map Sp.q=ruU R (aR (pfR p gs) ts) 5)→whO x (L.map Sp.q)=(vWh (bg p ts.length) (gs.length:Int) (atC p gs) ts (pfR p gs) meR x).map Se.s∧L.length≤320):=fun L h0 hT h1=>by
  have h:=hq.symm.trans h0
  obtain⟨R,hR⟩:=xu h
  obtain⟨a,b⟩:=h1 h
  exact⟨by rw[b R hR,xB,Ap h hT hR],a⟩
 rw[←hq] at C1
 clear B A hc
 go_enter Tryz.func37,Tryz.ntmps37
 go_wp2_with fail
 refine C1.mono ?_
 rintro e1 w1 ⟨v1,L,rfl,g1,HS,h0,h1⟩
 have H1:Hid (SpO w1 w.heap.size v1 L∧w.grownBy w1 none):=⟨HS,g1⟩
 have HL1:Hid (q=0→onT ts x=true→whO x (L.map Sp.q)=(vWh (bg p ts.length) (gs.length:Int) (atC p gs) ts (pfR p gs) meR x).map Se.s∧L.length≤320):=fun a b=>HL.out L a b (fun z=>h1 (hq.trans z))
 obtain⟨pl,cl,rfl⟩:=az.Own.form HS.o
 clear C1 g1 HS h0 h1 HL hq
 by_cases hq0:q=0
 ·have ex:(q != 0)=false:=by rw[hq0];rfl
  have H0:Hid (vkE (bg p ts.length) (gs.length:Int) (atC p gs) ts (aR (pfR p gs) (ts.take 2048)) meR=0):=Hq.out.trans hq0
  have HL2:Hid (onT ts x=true→whO x (L.map Sp.q)=(vWh (bg p ts.length) (gs.length:Int) (atC p gs) ts (pfR p gs) meR x).map Se.s∧L.length≤320):=HL1.out hq0
  have HBad:Hid (onT ts x=false→vqE (vkE (bg p ts.length) (gs.length:Int) (atC p gs) ts (aR (pfR p gs) (ts.take 2048)) meR) (onT ts x) 6=6):=fun z=>by rw[H0.out,z];rfl
  clear Hq HL1 hq0
  by_cases h1:x<1
  ·have d1:decide (x<1)=true:=Qy h1
   have HO:Hid (onT ts x=false):=by
    show _=_
    unfold onT
    rw[Qx (by omega),Bool.false_and]
   clear h1
   go_wp2_with fail
   go_ret2
   exact gK.no (HBad.out HO.out) (by decide) H1.out.2
  ·have d1:decide (x<1)=false:=Qx h1
   by_cases h2:(ts.length:Int)<x
   ·have d2:decide ((ts.length:Int)<x)=true:=Qy h2
    have HO:Hid (onT ts x=false):=by
     show _=_
     unfold onT
     rw[Qx (show ¬x≤(ts.length:Int) by omega),Bool.false_and,Bool.and_false]
    clear h1 h2
    go_wp2_with fail
    go_ret2
    exact gK.no (HBad.out HO.out) (by decide) H1.out.2
   ·have d2:decide ((ts.length:Int)<x)=false:=Qx h2
    obtain⟨j,hj⟩:∃ j:Nat,x=(j:Int)+1:=⟨(x - 1).toNat,by omega⟩
    have hjl:j<ts.length:=by omega
    obtain⟨g,off,cap,ee,R⟩:=bO (HA.out.keep H1.out.2) hjl
    cases ee
    obtain⟨t,ht⟩:=Qe (ts[j])
    rw[←ht] at R
    obtain⟨c0,c1,c2,c3,c4,c5,c6,c7,c8,c9,c10⟩:=bz R
    have hjl':(j:Int)<ts.length:=Int.ofNat_lt.2 hjl
    have hw1:wrap64 (x - 1)=(j:Int):=by have:=HLn.out;unfold maxLen at this;unfold wrap64;omega
    have hw2:IntKind.i64.wrap (x - 1)=(j:Int):=by have:=HLn.out;unfold maxLen at this;rw[IntWalk.i64_in _ (by omega)];omega
    have HX:Hid (onT ts x=(t.place == 4)):=by
     show _=_
     unfold onT
     rw[Qy (by omega),Qy (show x≤(ts.length:Int) by omega),hj,show ((j:Int)+1 - 1).toNat=j by omega,aB hjl,←ht,Bool.true_and,Bool.true_and]
     by_cases z:t.place=4
     ·rw[Qy z,z];rfl
     ·rw[Qx z];symm;simpa using z
    by_cases hp:t.place=4
    ·have hpb:(t.place != 4)=false:=by rw[hp];rfl
     have HT:Hid (onT ts x=true):=HX.out.trans (by rw[hp];rfl)
     have HL3:Hid (whO x (L.map Sp.q)=(vWh (bg p ts.length) (gs.length:Int) (atC p gs) ts (pfR p gs) meR x).map Se.s∧L.length≤320):=HL2.out HT.out
     clear h1 h2 hj hjl R ht c0 c1 c3 c4 c5 c6 c7 c8 c9 c10 hp HX HBad HL2
     go_wp2_with fail
     clear c2 hw1 hw2 d1 d2 hpb hjl'
     go_loopw [10,11,12] (fun o n _ wr=>∃ (i:Nat) (po:Option Addr) (mo co:Nat),o=.slice po mo co∧n=.int .i64 (i:Int)∧i≤L.length∧Hid (SpO wr w.heap.size (.slice pl L.length cl) L∧bF wr w.heap.size (.slice po mo co) (whO x ((L.take i).map Sp.q))∧w.grownBy wr none)) (fun _ n _ _=>L.length - (intOf n).toNat)
     case atStart=>exact⟨0,none,0,0,rfl,rfl,Q0 _,H1.out.1,az.Own.nil _ _ _ _,H1.out.2⟩
     case round =>
      obtain⟨i,po,mo,co,rfl,rfl,hi2,HB⟩:=hrel
      obtain⟨U,hU⟩:=Qe (wr)
      subst hU
      clear H1
      by_cases hlt:i<L.length
      ·obtain⟨gl,c,e1,R⟩:=HB.out.1.there hlt
       cases e1
       obtain⟨y,hy⟩:=Qe (L[i])
       have Hym:Hid (y∈L∧y.ns.length≤16):=⟨by rw[hy];exact List.getElem_mem hlt,by rw[hy];exact(HB.out.1.l _ (List.getElem_mem hlt)).2⟩
       rw[←hy] at R
       obtain⟨x0,x1,x2,x3,x4,x5,x6,x7,x8,x9,x10⟩:=tN R
       unfold Sp.u at x10
       obtain⟨P,hP⟩:=Qe (whO x ((L.take i).map Sp.q))
       have HPo:Hid (bF U w.heap.size (.slice po mo co) P):=by rw[hP];exact HB.out.2.1
       have HP:Hid (whO x ((L.take (i+1)).map Sp.q)=P++(if x∈y.ns then [y.s] else [])∧P.length≤320):=⟨by rw[hP,Ah hlt,←hy],by rw[hP];refine Ql (Dc _ _) ?_;rw[List.length_map,List.length_take];have:=HL3.out.2;omega⟩
       have hmo:mo=P.length:=by obtain⟨a,b,e⟩:=az.Own.form HPo.out;injection e
       subst hmo
       have HLp:Hid (P.length+1≤maxLen∧(P.length+1)*56≤140737488355328):=ge (by have:=HP.out.2;omega)
       have hlt':(i:Int)<L.length:=Int.ofNat_lt.2 hlt
       have hwi:=aK (k:=i) (by have:=HL3.out.2;omega)
       have Hlt:Hid (i<L.length):=hlt
       have HM:Hid (L.length - (intOf (.int .i64 ((i:Int)+1))).toNat<L.length - (intOf (.int .i64 (i:Int))).toNat):=bj hlt
       clear R hy hP hlt hi2
       go_wp2_with fail
       go_loopw [10,12] (fun o m wr=>∃ (k:Nat),o=.slice po P.length co∧m=.int .i64 (k:Int)∧k≤y.ns.length∧wr=U∧Hid (x ∉ y.ns.take k)) (fun _ m _=>y.ns.length - (intOf m).toNat)
       case atStart=>exact⟨0,by first | rfl | trivial,by first | rfl | trivial,Q0 _,by first | rfl | trivial,by show _ ∉ _;simp⟩
       case round =>
        obtain⟨k,rfl,rfl,hk,rfl,HN⟩:=hrel
        by_cases hkl:k<y.ns.length
        ·obtain⟨g2,c2,e2,r2⟩:=HB.out.1.ints Hym.out.1 hkl
         unfold Sp.u at e2
         injection e2 with e3 e4 e5
         rw[e3] at x10
         obtain⟨z,hz⟩:=Qe (y.ns.getD k 0)
         rw[←hz] at r2
         have hkl':(k:Int)<y.ns.length:=Int.ofNat_lt.2 hkl
         have hwk:=aK (k:=k) (by have:=Hym.out.2;omega)
         have Hkl:Hid (k<y.ns.length∧z=y.ns.getD k 0):=⟨hkl,hz⟩
         have HMk:Hid (y.ns.length - (intOf (.int .i64 ((k:Int)+1))).toNat<y.ns.length - (intOf (.int .i64 (k:Int))).toNat):=bj hkl
         clear e3 e4 e5 hz hkl hk
         by_cases hzx:z=x
         ·have ez:(z == x)=true:=by rw[hzx];simp
          have HIn:Hid (x∈y.ns):=En Hkl.out.1 (by rw[←Hkl.out.2];exact hzx)
          clear hzx
          go_upto_region 9 with (at_builtin;refine bE (by rfl) (.tmp 65) (.tmp 71) 30 rfl w.heap.size 64 i0 _ 10 56 Tryz.underlying30 hi hz0 hz1 hz2 rfl (by decide) _ P.length (sdR.cs P) rfl (World.ownsRow.alloc HPo.out _) _ 1 (sdc y.s) rfl (mU wr y.s) (fz _) HLp.out.1 HLp.out.2 (by rw[World.size_alloc];exact Nat.le_succ_of_le HB.out.2.2.size) ?_;intro v8 w8 o8 g8 _;have HO8:Hid _:=o8;have HG8:Hid _:=g8;clear o8 g8)
          have HO8':Hid (w8.ownsRow w.heap.size 64 10 v8 (P.length+1) (sdR.cs P++sdc y.s)):=HO8.out
          obtain⟨p8,c8,ev8,-⟩:=br HO8'.out
          subst ev8
          have gA:wr.grownBy (wr.alloc (.cells (sdc y.s).toArray 64)) none:=QG
          have HB8:Hid (SpO w8 w.heap.size (.slice (some ⟨gl,0,none⟩) L.length cl) L∧bF w8 w.heap.size (.slice p8 (P.length+1) c8) (whO x ((L.take (i+1)).map Sp.q))∧w.grownBy w8 none):=⟨(HB.out.1.keep gA).past (aw HPo.out gA) HG8.out,by rw[HP.out.1,if_pos HIn.out];exact iW HO8'.out,ar (ae HB.out.2.2 gA) HG8.out (fun y e=>(World.ownsRow.lt HPo.out y e).1)⟩
          clear HO8 HG8 HO8' HPo gA HB x0 x1 x2 x3 x4 x5 x6 x7 x8 x9 x10 r2 ez
          go_wp2_with fail
          go_roundw
          case rel=>exact⟨i+1,_,_,_,rfl,by first | rfl | (rw[hwi];rfl) | go_num,Hlt.out,HB8⟩
          case measure=>first | exact HM.out | (rw[hwi];exact HM.out)
         ·have ez:(z == x)=false:=by simpa using hzx
          have HNn:Hid (x ∉ y.ns.take (k+1)):=Fw HN.out Hkl.out.1 (by rw[←Hkl.out.2];exact hzx)
          clear hzx
          go_wp2_with fail
          go_roundw
          case rel=>exact⟨k+1,by first | rfl | trivial,by first | rfl | (rw[hwk];rfl) | go_num,Hkl.out.1,by first | rfl | trivial,HNn⟩
          case measure=>first | exact HMk.out | (rw[hwk];exact HMk.out)
        ·obtain rfl:k=y.ns.length:=Nat.le_antisymm hk (Nat.le_of_not_lt hkl)
         have HB8:Hid (SpO wr w.heap.size (.slice (some ⟨gl,0,none⟩) L.length cl) L∧bF wr w.heap.size (.slice po P.length co) (whO x ((L.take (i+1)).map Sp.q))∧w.grownBy wr none):=⟨HB.out.1,by rw[HP.out.1,if_neg (by have:=HN.out;rwa [List.take_length] at this),List.append_nil];exact HPo.out,HB.out.2.2⟩
         clear hk hkl
         go_wp2_with fail
         go_roundw
         case rel=>exact⟨i+1,_,_,_,rfl,by first | rfl | (rw[hwi];rfl) | go_num,Hlt.out,HB8⟩
         case measure=>first | exact HM.out | (rw[hwi];exact HM.out)
      ·obtain rfl:i=L.length:=Nat.le_antisymm hi2 (Nat.le_of_not_lt hlt)
       have HE:Hid (bF U w.heap.size (.slice po mo co) ((vWh (bg p ts.length) (gs.length:Int) (atC p gs) ts (pfR p gs) meR x).map Se.s)∧w.grownBy U none):=⟨by rw[←HL3.out.1];have:=HB.out.2.1;rwa [List.take_length] at this,HB.out.2.2⟩
       clear hi2 hlt HB
       go_wp2_with fail
       go_ret2
       exact⟨_,by rw[H0.out,HT.out];rfl,HE.out.2,HE.out.1⟩
    ·have hpb:(t.place != 4)=true:=by simpa using hp
     have HO:Hid (onT ts x=false):=HX.out.trans (by simpa using hp)
     clear h1 h2 hj hjl R ht c0 c1 c3 c4 c5 c6 c7 c8 c9 c10 hp HX
     go_wp2_with fail
     go_ret2
     exact gK.no (HBad.out HO.out) (by decide) H1.out.2
 ·have ex:(q != 0)=true:=by simpa using hq0
  have HE:Hid (vqE (vkE (bg p ts.length) (gs.length:Int) (atC p gs) ts (aR (pfR p gs) (ts.take 2048)) meR) (onT ts x) 6=q∧q≠0):=⟨by rw[Hq.out,qK hq0],hq0⟩
  clear hq0
  go_wp2_with fail
  go_ret2
  exact gK.no HE.out.1 HE.out.2 H1.out.2
end Go.Proofs.YtjmepebbcnhalaaGreat
namespace Go.Proofs.YtjmepebbcnhalaaGreat
set_option maxHeartbeats 2000000
open Go.RowKit
variable {x:Int} {w w':World} {b base g cap j size ga xc:Nat} {t:Th} {xs:List Value}
theorem Tryz.info3iE:(Tryz.prog.info? 3).map (fun i=>(i.zero,i.size,i.bytes))=some (some (.int .i64 0),1,8):=by kernel_rfl

def qs (t u:Th):Bool:=decide (t.card=u.card∧t.owner=u.owner∧t.place=u.place∧t.stamp=u.stamp∧t.hurt=u.hurt∧(t.m0=u.m0∧t.m1=u.m1∧t.m2=u.m2∧t.m3=u.m3)∧t.done=u.done∧t.fresh=u.fresh)
theorem yG {u:Th}:qs t u=true↔t=u:=by
 unfold qs
 rw[decide_eq_true_iff]
 constructor
 ·rintro⟨h1,h2,h3,h4,h5,⟨h6,h7,h8,h9⟩,h10,h11⟩
  cases t
  cases u
  simp only at h1 h2 h3 h4 h5 h6 h7 h8 h9 h10 h11
  subst h1 h2 h3 h4 h5 h6 h7 h8 h9 h10 h11
  rfl
 ·rintro rfl
  simp
theorem ET (op:BinOp) (x y:Operand) (xs ys:Array Value) (w:World):(eqGuard op 120 x y (.agg xs) (.agg ys)).run Tryz.prog w=.ok () w:=run_eqGuard_agg w op 120 x y xs ys (by kernel_rfl)
theorem qF (a0 a1 a2 a3 b0 b1 b2 b3:Int) (w:World):(Op.equalIn 9999 118 (.agg #[.int .i64 a0,.int .i64 a1,.int .i64 a2,.int .i64 a3]) (.agg #[.int .i64 b0,.int .i64 b1,.int .i64 b2,.int .i64 b3])).run Tryz.prog w=.ok (decide (a0=b0∧a1=b1∧a2=b2∧a3=b3)) w:=by
 obtain⟨i0,hi,_⟩:=info_parts Tryz.info3iE
 have u3:=Tryz.underlying3
 have i3:=Tryz.isAgg3
 have z3:=Tryz.sizeOf3
 have hc:Tryz.prog.cellsOf 3=1:=by kernel_rfl
 rw[show (9999:Nat)=9998+1 from rfl,run_equalIn_array w 9998 _ _ Tryz.underlying118 hi,hc,show List.range 4=[0,1,2,3] from rfl]
 simp only[Op.eqItems]
 go_simp
 by_cases h0:a0=b0
 case neg=>simp[h0]
 simp only[h0]
 by_cases h1:a1=b1
 case neg=>simp[h1]
 simp only[h1]
 by_cases h2:a2=b2
 case neg=>simp[h2]
 simp only[h2]
 by_cases h3:a3=b3
 case neg=>simp[h3]
 simp[h3]
theorem uq (ac ao ap ax ah am0 am1 am2 am3 ad bc bo bp bx bh bm0 bm1 bm2 bm3 bd:Int) (af bf:Bool) (w:World):(Op.equalIn 10000 120 (.agg #[.int .i64 ac,.int .i64 ao,.int .u8 ap,.int .i64 ax,.int .i64 ah,.int .i64 am0,.int .i64 am1,.int .i64 am2,.int .i64 am3,.int .i64 ad,.bool af]) (.agg #[.int .i64 bc,.int .i64 bo,.int .u8 bp,.int .i64 bx,.int .i64 bh,.int .i64 bm0,.int .i64 bm1,.int .i64 bm2,.int .i64 bm3,.int .i64 bd,.bool bf])).run Tryz.prog w=.ok (qs (⟨ac,ao,ap,ax,ah,am0,am1,am2,am3,ad,af⟩:Th) (⟨bc,bo,bp,bx,bh,bm0,bm1,bm2,bm3,bd,bf⟩:Th)) w:=by
 unfold qs
 have hS:Tryz.prog.underlying 120=some (.struct (Tryz.prog.fieldsOf 120)):=by kernel_rfl
 have hp:Tryz.prog.stoodInHeld 120=false:=by kernel_rfl
 have u3:=Tryz.underlying3
 have i3:=Tryz.isAgg3
 have z3:=Tryz.sizeOf3
 have u4:=Tryz.underlying4
 have i4:=Tryz.isAgg4
 have z4:=Tryz.sizeOf4
 have uP:=Tryz.underlying117
 have iP:=Tryz.isAgg117
 have zP:=Tryz.sizeOf117
 have iA:=Tryz.isAgg118
 have zA:=Tryz.sizeOf118
 have h4:=qF am0 am1 am2 am3 bm0 bm1 bm2 bm3
 rw[show (10000:Nat)=9999+1 from rfl,run_equalIn_agg w 9999 120 _ _ hS hp]
 simp only[Program.fieldsOf,Tryz.underlying120]
 go_simp
 by_cases hc:ac=bc
 case neg=>simp[hc]
 simp only[hc]
 by_cases ho:ao=bo
 case neg=>simp[ho]
 simp only[ho]
 by_cases hp:ap=bp
 case neg=>simp[hp]
 simp only[hp]
 by_cases hx:ax=bx
 case neg=>simp[hx]
 simp only[hx]
 by_cases hh:ah=bh
 case neg=>simp[hh]
 simp only[hh]
 by_cases hm0:am0=bm0
 case neg=>simp[hm0]
 simp only[hm0]
 by_cases hm1:am1=bm1
 case neg=>simp[hm1]
 simp only[hm1]
 by_cases hm2:am2=bm2
 case neg=>simp[hm2]
 simp only[hm2]
 by_cases hm3:am3=bm3
 case neg=>simp[hm3]
 simp only[hm3]
 by_cases hd:ad=bd
 case neg=>simp[hd]
 simp only[hd]
 by_cases hf:af=bf
 case neg=>simp[hf]
 simp[hf]
theorem Fd (ac ao ap ax ah am0 am1 am2 am3 ad bc bo bp bx bh bm0 bm1 bm2 bm3 bd:Int) (af bf:Bool) (w:World):(binOp .neq 120 (.agg #[.int .i64 ac,.int .i64 ao,.int .u8 ap,.int .i64 ax,.int .i64 ah,.int .i64 am0,.int .i64 am1,.int .i64 am2,.int .i64 am3,.int .i64 ad,.bool af]) (.agg #[.int .i64 bc,.int .i64 bo,.int .u8 bp,.int .i64 bx,.int .i64 bh,.int .i64 bm0,.int .i64 bm1,.int .i64 bm2,.int .i64 bm3,.int .i64 bd,.bool bf])).run Tryz.prog w=.ok (.bool (!qs (⟨ac,ao,ap,ax,ah,am0,am1,am2,am3,ad,af⟩:Th) (⟨bc,bo,bp,bx,bh,bm0,bm1,bm2,bm3,bd,bf⟩:Th))) w:=by
 rw[run_neq_struct,uq];rfl
set_option maxRecDepth 100000
set_option maxHeartbeats 4000000
open Go.Shelf
theorem nW {n:Nat} (hb:8≤b) (h:(n+2)*b≤140737488355328):ba n∧n+2≤maxLen∧n+2≤17592186044416:=by
 have h1:(n+2)*8≤(n+2)*b:=Nat.mul_le_mul_left _ hb
 have h2:n+2≤17592186044416:=by omega
 exact⟨by unfold ba;omega,by unfold maxLen;omega,h2⟩
theorem xp {α:Type} (R:az α) (T:TypeId) (Z:World) (x:α):Src (Z.alloc (.cells (R.enc x++R.enc x).toArray T)) (.slice (some ⟨Z.heap.size,0,none⟩) 2 2) 2 R.k (R.cs [x,x]):=by
 have h:=jo (m:=2) (size:=R.k) (cs:=(R.enc x++R.enc x).toArray) (ak Z (R.enc x++R.enc x).toArray T) (by simp[R.hk];omega) 2
 have e:(R.enc x++R.enc x).toArray.toList=R.cs [x,x]:=by show R.enc x++R.enc x=R.enc x++(R.enc x++[]);rw[List.append_nil]
 rw[e] at h
 exact h
theorem az.join {α:Type} {R:az α} {T:TypeId} {n m:Nat} {v:Value} {l l':List α} (h:w.ownsRow base T R.k v (n+m) (R.cs l++R.cs l')) (hn:n=l.length) (hm:m=l'.length):R.Own T w base v (l++l'):=by
 unfold az.Own
 rw[Qa,←hn,←hm,R.app]
 exact h
theorem Di (t:Th) (w:World):(binOp .neq 120 (.agg #[.int .i64 t.card,.int .i64 t.owner,.int .u8 t.place,.int .i64 t.stamp,.int .i64 t.hurt,.int .i64 t.m0,.int .i64 t.m1,.int .i64 t.m2,.int .i64 t.m3,.int .i64 t.done,.bool t.fresh]) (.agg #[.int .i64 t.card,.int .i64 t.owner,.int .u8 t.place,.int .i64 t.stamp,.int .i64 t.hurt,.int .i64 t.m0,.int .i64 t.m1,.int .i64 t.m2,.int .i64 t.m3,.int .i64 t.done,.bool t.fresh])).run Tryz.prog w=.ok (.bool false) w:=by
 rw[Fd,show qs _ _=true from yG.2 rfl]
 rfl
theorem wX (s:Sd) (w:World):(binOp .neq 64 (.agg #[.int .i64 s.th,.int .i64 s.pl,.int .u8 s.wh.wn,.int .u8 s.wh.vb,.int .u8 s.wh.wm,.int .i64 s.wh.ct,.int .u8 s.wh.su,.int .u8 s.wh.tr,.int .u8 s.wh.mr,.string s.wh.nm]) (.agg #[.int .i64 s.th,.int .i64 s.pl,.int .u8 s.wh.wn,.int .u8 s.wh.vb,.int .u8 s.wh.wm,.int .i64 s.wh.ct,.int .u8 s.wh.su,.int .u8 s.wh.tr,.int .u8 s.wh.mr,.string s.wh.nm])).run Tryz.prog w=.ok (.bool false) w:=DH s w
def da:Th:=⟨-77,0,0,0,0,0,0,0,0,0,false⟩
theorem uh (v:Value) (l:List Th) (w:World) (h:thR.At w v l) (hb:(l.length+2)*88≤140737488355328):Calls Tryz.prog 81 #[v] w fun e w'=>∃ v',e=.returned v'∧thR.Own 120 w' w.heap.size v' l∧w.grownBy w' none:=by
 obtain⟨i0,hi,hz0,hz1,hz2⟩:=info_parts Tryz.linfoT
 have HS:Hid (Src w v l.length 11 (thR.cs l)):=h.src
 have hsm:=nW (by decide) hb
 obtain⟨n,hn⟩:=Qe (l.length)
 have HN:Hid (n=l.length):=hn
 have HL:Hid (0+n≤maxLen∧(0+n)*88≤140737488355328):=by show _∧_;have:=hsm.2.1;exact⟨by omega,by omega⟩
 rw[←hn] at HS
 clear h hb hn hsm
 go_enter Tryz.func81,Tryz.ntmps81
 go_wp2_with (at_builtin;refine bE (by rfl) (.tmp 4) (.tmp 5) 26 rfl w.heap.size 120 i0 _ 11 88 Tryz.underlying26 hi hz0 hz1 hz2 rfl (by decide) _ 0 [] rfl (az.Own.nil thR 120 w w.heap.size) _ n (thR.cs l) rfl HS.out (thR.ones l) HL.out.1 HL.out.2 (Qj _) ?_;intro v3 w3 o3 g3 _;have HF:Hid (thR.Own 120 w3 w.heap.size v3 l∧w.grownBy w3 none):=⟨by unfold az.Own;rw[←HN.out];rw[Nat.zero_add,List.nil_append] at o3;exact o3,g3⟩;clear o3 g3)
 go_ret
 exact⟨_,rfl,HF.out.1,HF.out.2⟩
theorem wv (va vb:Value) (l:List Th) (w:World) (A:thR.At w va l) (B:thR.At w vb l) (hsm:ba l.length):Calls Tryz.prog 80 #[va,vb] w fun e w'=>e=.returned (.bool true)∧w.grownBy w' none:=by
 obtain⟨pa,ca,rfl⟩:=A.form
 obtain⟨pb,cb,rfl⟩:=B.form
 have HA:Hid (thR.At w (.slice pa l.length ca) l):=A
 have HB:Hid (thR.At w (.slice pb l.length cb) l):=B
 have hnq:=Di
 have hgq:=ET
 clear A B
 go_enter Tryz.func80,Tryz.ntmps80
 go_wp2_with fail
 go_loopw [5] (fun x5 wr=>∃ k:Nat,k≤l.length∧x5=.int .i64 (k:Int)∧w.grownBy wr none) (fun x5 _=>l.length - (intOf x5).toNat)
 case atStart=>exact⟨0,Q0 _,rfl,ay _ _⟩
 case round =>
  obtain⟨k,hk,rfl,G⟩:=hrel
  obtain⟨U,hU⟩:=Qe (wr)
  subst hU
  have HG:Hid (w.grownBy U none):=G
  clear G
  rcases (show k<l.length∨k=l.length from by omega) with hkl | hke
  ·have k0:(0:Int)≤(k:Int):=by omega
   have k1:(k:Int)<(l.length:Int):=by omega
   obtain⟨ga,oa,xa,ea,Ra⟩:=bO (HA.out.keep HG.out) hkl
   cases ea
   obtain⟨gb,ob,xb,eb,Rb⟩:=bO (HB.out.keep HG.out) hkl
   cases eb
   obtain⟨x,hx⟩:=Qe (l[k])
   rw[←hx] at Ra Rb
   obtain⟨a0,a1,a2,a3,a4,a5,a6,a7,a8,a9,a10⟩:=bz Ra
   obtain⟨b0,b1,b2,b3,b4,b5,b6,b7,b8,b9,b10⟩:=bz Rb
   clear hx Ra Rb
   go_upto_region 6 with fail
   go_quiet (fail)
   go_wp2_with fail
   go_roundw
   case rel=>exact⟨k+1,hkl,by first | rfl | (rw[hsm.wrap hkl];rfl),ae HG.out (aF _ _ _)⟩
   case measure=>first | exact aA hkl | (rw[hsm.wrap hkl];exact aA hkl)
  ·have k1:¬(k:Int)<(l.length:Int):=by omega
   clear hke
   go_wp2_with fail
   go_ret
   exact⟨rfl,HG.out⟩
theorem uZ (v:Value) (l:List Th) (w:World) (h:thR.At w v l) (hb:(l.length+2)*88≤140737488355328):Calls Tryz.prog 8 #[v] w fun e w'=>∃ v',e=.returned v'∧thR.Own 120 w' w.heap.size v' (l++[da,da])∧w.grownBy w' none:=by
 obtain⟨i0,hi,hz0,hz1,hz2⟩:=info_parts Tryz.linfoT
 have HS:Hid (Src w v l.length 11 (thR.cs l)):=h.src
 have hsm:=nW (by decide) hb
 obtain⟨p,c,rfl⟩:=h.form
 obtain⟨n,hn⟩:=Qe (l.length)
 have HN:Hid (n=l.length):=hn
 rw[←hn] at HS hb hsm ⊢
 have hC:Hid (wrap64 ((n:Int)+2)=((n+2:Nat):Int)):=by show _=_;have:=hsm.2.2;unfold wrap64;omega
 have hB:Hid (i0.bytes*(n+2)≤281474976710656):=by show _≤_;rw[hz2];omega
 have hM:Hid (n+2≤maxLen):=hsm.2.1
 have HL:Hid ((0+n≤maxLen∧(0+n)*88≤140737488355328)∧(n+2≤maxLen∧(n+2)*88≤140737488355328)):=by have:=hsm.2.1;exact⟨⟨by omega,by omega⟩,this,hb⟩
 clear h hb hn hsm
 go_enter Tryz.func8,Tryz.ntmps8
 go_upto_region 2 with (at_make;refine wpList_make_own _ rfl _ _ 26 rfl w.heap.size 120 i0 _ 11 Tryz.underlying26 hi hz0 hz1 .i64 .i64 _ (n+2) rfl rfl hC.out hB.out hM.out (Qj _) ?_;intro w1 o1 g1;have HO1:Hid (w1.ownsRow w.heap.size 120 11 (.slice (some ⟨w.heap.size,0,none⟩) 0 (n+2)) 0 []):=o1;have HG1:Hid (w.grownBy w1 none):=g1;clear o1 g1)
 have HS1:Hid (Src w1 (.slice p n c) n 11 (thR.cs l)):=Src.keep HS.out HG1.out
 have Hs1:Hid (w.heap.size≤w1.heap.size):=HG1.out.size
 go_upto_region 3 with (at_builtin;refine bE (by rfl) (.tmp 8) (.tmp 9) 26 rfl w.heap.size 120 i0 _ 11 88 Tryz.underlying26 hi hz0 hz1 hz2 rfl (by decide) _ 0 [] rfl HO1.out _ n (thR.cs l) rfl HS1.out (thR.ones l) HL.out.1.1 HL.out.1.2 Hs1.out ?_;intro v2 w2 o2 g2 _;have HO2:Hid (w2.ownsRow w.heap.size 120 11 v2 n (thR.cs l)):=(by show World.ownsRow _ _ _ _ _ _ _;rw[Nat.zero_add,List.nil_append] at o2;exact o2);have HG2:Hid (w.grownBy w2 none):=ar HG1.out g2 (fun y e=>(World.ownsRow.lt HO1.out y e).1);clear o2 g2)
 obtain⟨p2,c2,rfl⟩:∃ p c,v2=.slice p n c:=by obtain⟨p,c,e,_⟩:=br HO2.out;exact⟨p,c,e⟩
 obtain⟨Q,hQ⟩:=Qe (w2.alloc (.cells (thR.enc da++thR.enc da).toArray 120))
 have HQ:Hid (w2.grownBy Q none∧Src Q (.slice (some ⟨w2.heap.size,0,none⟩) 2 2) 2 11 (thR.cs [da,da])):=⟨by rw[hQ];exact QG,by rw[hQ];exact xp thR 120 w2 da⟩
 have HOQ:Hid (Q.ownsRow w.heap.size 120 11 (.slice p2 n c2) n (thR.cs l)):=aw HO2.out HQ.out.1
 have HsQ:Hid (w.heap.size≤Q.heap.size):=Ql HG2.out.size HQ.out.1.size
 have hQ':Q=w2.alloc (.cells #[.int .i64 (-77),.int .i64 0,.int .u8 0,.int .i64 0,.int .i64 0,.int .i64 0,.int .i64 0,.int .i64 0,.int .i64 0,.int .i64 0,.bool false,.int .i64 (-77),.int .i64 0,.int .u8 0,.int .i64 0,.int .i64 0,.int .i64 0,.int .i64 0,.int .i64 0,.int .i64 0,.int .i64 0,.bool false] 120):=hQ
 clear hQ
 go_wp2_with (at_builtin;rw[←hQ'];refine bE (by rfl) (.tmp 11) (.tmp 14) 26 rfl w.heap.size 120 i0 _ 11 88 Tryz.underlying26 hi hz0 hz1 hz2 rfl (by decide) (.slice p2 n c2) n (thR.cs l) rfl HOQ.out (.slice (some ⟨w2.heap.size,0,none⟩) 2 2) 2 (thR.cs [da,da]) rfl HQ.out.2 (thR.ones _) HL.out.2.1 HL.out.2.2 HsQ.out ?_;intro v3 w3 o3 g3 _;have HF:Hid (thR.Own 120 w3 w.heap.size v3 (l++[da,da])∧w.grownBy w3 none):=⟨az.join o3 HN.out rfl,ar (ae HG2.out HQ.out.1) g3 (fun y e=>(World.ownsRow.lt HOQ.out y e).1)⟩;clear o3 g3)
 go_ret
 exact⟨_,rfl,HF.out.1,HF.out.2⟩
theorem ui (vf vl:Value) (l:List Th) (w:World) (hf:thR.At w vf (l++[da,da])) (hl:thR.At w vl l) (hb:(l.length+2)*88≤140737488355328):Calls Tryz.prog 21 #[vf,vl] w fun e w'=>e=.returned (.bool true)∧w.grownBy w' none:=by
 obtain⟨i0,hi,hz0,hz1,hz2⟩:=info_parts Tryz.linfoT
 obtain⟨l2,hl2⟩:=Qe (l++[da,da])
 have Hl2:Hid (l2=l++[da,da]):=hl2
 rw[←hl2] at hf
 have C1:=uh vl l w hl hb
 have hsm:=nW (by decide) hb
 obtain⟨fa,fc,rfl⟩:=hf.form
 have HF:Hid (thR.At w (.slice fa l2.length fc) l2):=hf
 obtain⟨la,lc,rfl⟩:=hl.form
 obtain⟨n,hn⟩:=Qe (l.length)
 have HN:Hid (n=l.length):=hn
 have HL:Hid ((n+2≤maxLen∧(n+2)*88≤140737488355328)∧ba l2.length):=⟨⟨by rw[hn];exact hsm.2.1,by rw[hn];exact hb⟩,by have:=hsm.2.2;unfold ba;rw[hl2,Qa];show l.length+2≤_;omega⟩
 clear hf hl hb hsm hn hl2
 go_enter Tryz.func21,Tryz.ntmps21
 go_wp2_with fail
 refine C1.mono ?_
 rintro e w1 ⟨u,rfl,o1,g1⟩
 obtain⟨p2,c2,rfl⟩:=az.Own.form o1
 have HO1:Hid (w1.ownsRow w.heap.size 120 11 (.slice p2 l.length c2) n (thR.cs l)):=by show World.ownsRow _ _ _ _ _ _ _;rw[HN.out];exact o1
 have HG1:Hid (w.grownBy w1 none):=g1
 clear C1 o1 g1
 rw[←HN.out] at HO1 ⊢
 obtain⟨Q,hQ⟩:=Qe (w1.alloc (.cells (thR.enc da++thR.enc da).toArray 120))
 have HQ:Hid (w1.grownBy Q none∧Src Q (.slice (some ⟨w1.heap.size,0,none⟩) 2 2) 2 11 (thR.cs [da,da])):=⟨by rw[hQ];exact QG,by rw[hQ];exact xp thR 120 w1 da⟩
 have HOQ:Hid (Q.ownsRow w.heap.size 120 11 (.slice p2 n c2) n (thR.cs l)):=aw HO1.out HQ.out.1
 have HsQ:Hid (w.heap.size≤Q.heap.size):=Ql HG1.out.size HQ.out.1.size
 have hQ':Q=w1.alloc (.cells #[.int .i64 (-77),.int .i64 0,.int .u8 0,.int .i64 0,.int .i64 0,.int .i64 0,.int .i64 0,.int .i64 0,.int .i64 0,.int .i64 0,.bool false,.int .i64 (-77),.int .i64 0,.int .u8 0,.int .i64 0,.int .i64 0,.int .i64 0,.int .i64 0,.int .i64 0,.int .i64 0,.int .i64 0,.bool false] 120):=hQ
 clear hQ
 go_wp2_with (at_builtin;rw[←hQ'];refine bE (by rfl) (.tmp 7) (.tmp 10) 26 rfl w.heap.size 120 i0 _ 11 88 Tryz.underlying26 hi hz0 hz1 hz2 rfl (by decide) (.slice p2 n c2) n (thR.cs l) rfl HOQ.out (.slice (some ⟨w1.heap.size,0,none⟩) 2 2) 2 (thR.cs [da,da]) rfl HQ.out.2 (thR.ones _) HL.out.1.1 HL.out.1.2 HsQ.out ?_;intro v3 w3 o3 g3 _;have H3:Hid (thR.Own 120 w3 w.heap.size v3 l2∧w.grownBy w3 none):=⟨by rw[Hl2.out];exact az.join o3 HN.out rfl,ar (ae HG1.out HQ.out.1) g3 (fun y e=>(World.ownsRow.lt HOQ.out y e).1)⟩;clear o3 g3)
 have CS:=wv _ _ l2 w3 (HF.out.keep H3.out.2) (az.Own.at H3.out.1) HL.out.2
 refine CS.mono ?_
 rintro e w4 ⟨rfl,g4⟩
 have HG4:Hid (w.grownBy w4 none):=ae H3.out.2 g4
 clear CS g4
 go_wp2_with fail
 go_ret
 exact⟨rfl,HG4.out⟩
theorem jR (va vb:Value) (l:List Fe) (w:World) (A:feR.At w va l) (B:feR.At w vb l) (hsm:ba l.length):Calls Tryz.prog 18 #[va,vb] w fun e w'=>e=.returned (.bool true)∧w.grownBy w' none:=by
 obtain⟨pa,ca,rfl⟩:=A.form
 obtain⟨pb,cb,rfl⟩:=B.form
 have HA:Hid (feR.At w (.slice pa l.length ca) l):=A
 have HB:Hid (feR.At w (.slice pb l.length cb) l):=B
 have hnq:=xC
 have hgq:=ry
 clear A B
 go_enter Tryz.func18,Tryz.ntmps18
 go_wp2_with fail
 go_loopw [5] (fun x5 wr=>∃ k:Nat,k≤l.length∧x5=.int .i64 (k:Int)∧w.grownBy wr none) (fun x5 _=>l.length - (intOf x5).toNat)
 case atStart=>exact⟨0,Q0 _,rfl,ay _ _⟩
 case round =>
  obtain⟨k,hk,rfl,G⟩:=hrel
  obtain⟨U,hU⟩:=Qe (wr)
  subst hU
  have HG:Hid (w.grownBy U none):=G
  clear G
  rcases (show k<l.length∨k=l.length from by omega) with hkl | hke
  ·have k0:(0:Int)≤(k:Int):=by omega
   have k1:(k:Int)<(l.length:Int):=by omega
   obtain⟨ga,oa,xa,ea,Ra⟩:=dA (HA.out.keep HG.out) hkl
   cases ea
   obtain⟨gb,ob,xb,eb,Rb⟩:=dA (HB.out.keep HG.out) hkl
   cases eb
   obtain⟨x,hx⟩:=Qe (l[k])
   rw[←hx] at Ra Rb
   obtain⟨a0,a1,a2,a3,a4⟩:=bm Ra
   obtain⟨b0,b1,b2,b3,b4⟩:=bm Rb
   clear hx Ra Rb
   go_upto_region 6 with fail
   go_quiet (fail)
   go_wp2_with fail
   go_roundw
   case rel=>exact⟨k+1,hkl,by first | rfl | (rw[hsm.wrap hkl];rfl),ae HG.out (aF _ _ _)⟩
   case measure=>first | exact aA hkl | (rw[hsm.wrap hkl];exact aA hkl)
  ·have k1:¬(k:Int)<(l.length:Int):=by omega
   clear hke
   go_wp2_with fail
   go_ret
   exact⟨rfl,HG.out⟩
end Go.Proofs.YtjmepebbcnhalaaGreat
namespace Go.Proofs.YtjmepebbcnhalaaGreat
open Go.RowKit
variable {x:Int} {w w':World} {b base g cap j size ga xc:Nat} {t:Th} {xs:List Value}
structure Kpt (S:List Nat) (w w':World):Prop where
 os:w'.os=w.os
 tape:w'.tape=w.tape
 output:w'.output=w.output
 size:w.heap.size≤w'.heap.size
 block:∀ k,k<w.heap.size→k ∉ S→w'.heap[k]?=w.heap[k]?
theorem Kpt.refl (S:List Nat) (w:World):Kpt S w w:=⟨rfl,rfl,rfl,Qj _,fun _ _ _=>rfl⟩
theorem Kpt.trans {S T:List Nat} {a b c:World} (h:Kpt S a b) (k:Kpt T b c) (hT:∀ x,x∈T→x∈S∨a.heap.size≤x):Kpt S a c :=
 ⟨k.os.trans h.os,k.tape.trans h.tape,k.output.trans h.output,Ql h.size k.size,fun i hi hs=>(k.block i (Nat.lt_of_lt_of_le hi h.size) (fun e=>by rcases hT i e with h1 | h1;exact hs h1;omega)).trans (h.block i hi hs)⟩
theorem Kpt.of_grown {r:Option Nat} (h:w.grownBy w' r):Kpt r.toList w w' :=
 ⟨h.os,h.tape,h.output,h.size,fun k hk hs=>h.block k hk (fun e=>hs (by rw[←e];simp))⟩
theorem Kpt.mono {S T:List Nat} {a b:World} (h:Kpt S a b) (hS:∀ x,x∈S→x∈T):Kpt T a b :=
 ⟨h.os,h.tape,h.output,h.size,fun k hk hs=>h.block k hk (fun e=>hs (hS k e))⟩
theorem Kpt.cell {S:List Nat} {a b:World} (h:Kpt S a b) {p:Addr} {v:Value} (hc:a.cell? p=some v) (hp:p.block ∉ S):b.cell? p=some v:=by
 rw[World.cell?_of_block (h.block p.block (World.block_lt_of_cell? _ _ hc) hp)];exact hc
theorem Kpt.grow {S:List Nat} {a b c:World} (h:Kpt S a b) (g:b.grownBy c none):Kpt S a c:=h.trans (Kpt.of_grown g) (by simp)
theorem Kpt.new {S:List Nat} {a b c:World} (g:a.grownBy b none) (h:Kpt S b c) (hS:∀ x,x∈S→a.heap.size≤x):a.grownBy c none :=
 ⟨h.os.trans g.os,h.tape.trans g.tape,h.output.trans g.output,Ql g.size h.size,fun k hk _=>(h.block k (Nat.lt_of_lt_of_le hk g.size) (fun e=>by have:=hS k e;omega)).trans (g.block k hk (by simp))⟩
theorem fg.eight {m:Nat} (h:fg w g cap) (hm:m<cap):∃ v0 v1 v2 v3 v4 v5 v6 v7,w.cell? ⟨g,m*8,none⟩=some v0∧w.cell? ⟨g,m*8+1,none⟩=some v1∧w.cell? ⟨g,m*8+2,none⟩=some v2∧w.cell? ⟨g,m*8+3,none⟩=some v3∧w.cell? ⟨g,m*8+4,none⟩=some v4∧w.cell? ⟨g,m*8+5,none⟩=some v5∧w.cell? ⟨g,m*8+6,none⟩=some v6∧w.cell? ⟨g,m*8+7,none⟩=some v7:=by
 obtain⟨v0,e0⟩:=h.cell (i:=m*8) (by omega)
 obtain⟨v1,e1⟩:=h.cell (i:=m*8+1) (by omega)
 obtain⟨v2,e2⟩:=h.cell (i:=m*8+2) (by omega)
 obtain⟨v3,e3⟩:=h.cell (i:=m*8+3) (by omega)
 obtain⟨v4,e4⟩:=h.cell (i:=m*8+4) (by omega)
 obtain⟨v5,e5⟩:=h.cell (i:=m*8+5) (by omega)
 obtain⟨v6,e6⟩:=h.cell (i:=m*8+6) (by omega)
 obtain⟨v7,e7⟩:=h.cell (i:=m*8+7) (by omega)
 exact⟨v0,v1,v2,v3,v4,v5,v6,v7,e0,e1,e2,e3,e4,e5,e6,e7⟩
structure Lst where
 a:Option Nat
 n:Nat
 cap:Nat
def Lst.v (x:Lst):Value:=.slice (x.a.map fun g=>⟨g,0,none⟩) x.n x.cap
def Lst.f (x:Lst):Value:=.slice (x.a.map fun g=>⟨g,0,none⟩) x.cap x.cap
def Lst.ok (w:World) (x:Lst):Prop:=(x.a=none∧x.n=0∧x.cap=0)∨∃ g,x.a=some g∧x.n≤x.cap∧lim x.cap∧fg w g x.cap
def bL (T:List Lst):List Nat:=T.filterMap Lst.a
theorem ol {T:List Lst} {x:Lst} (h:T[j]?=some x) (hg:x.a=some g):g∈bL T:=List.mem_filterMap.2 ⟨x,Qm h,hg⟩
def yP (T:List Lst):Prop:=∀ (i j:Nat) (x y:Lst) (g:Nat),T[i]?=some x→T[j]?=some y→x.a=some g→y.a=some g→i=j
def cX (T:List Lst):List Value:=T.map Lst.f
theorem lR {T:List Lst} {k:Nat} {x:Lst} (h:T[k]?=some x):cX (T.take (k+1))=cX (T.take k)++[x.f]:=by
 rw[List.take_add_one,h]
 simp[cX]
theorem qt {e:TypeId} {n:Nat} {v:Value} (h:w.ownsRow base e size v n xs):∀ x,v.ownBlock=some x→base≤x:=by
 obtain⟨h1,h2⟩:=h
 intro x hx
 rcases h2 with ⟨rfl,_⟩ | ⟨g,cap,cur,rfl,hg0,_⟩
 ·simp[Value.ownBlock] at hx
 ·simp[Value.ownBlock] at hx;omega
theorem js {n:Nat} (h:n≤4294967296):n≤maxLen:=by unfold maxLen;omega
def S12 (ga k g xc:Nat) (w:World):Prop:=w.cell? ⟨ga,k,none⟩=some (.slice (some ⟨g,0,none⟩) xc xc)
theorem S12.c {k:Nat} (h:S12 ga k g xc w):w.cell? ⟨ga,k,none⟩=some (.slice (some ⟨g,0,none⟩) xc xc):=h
end Go.Proofs.YtjmepebbcnhalaaGreat
