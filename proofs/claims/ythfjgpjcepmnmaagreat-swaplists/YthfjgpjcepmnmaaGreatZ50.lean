/-
  The document's swaps: List.
  Swap's laws: a book and none as swap is asked of;a card.
  SwapOnce,plainly: each swap once at most;step by step;the same of other stamps.
  Swap's laws: == of events and of swaps;same.
  The document's swaps: List of whatever is asked;one of List's is looked for.
  When two things are the same: Go's own test of two structs.
-/
import Derived.Test.YthfjgpjcepmnmaaGreatZ49
import Derived.Test.YthfjgpjcepmnmaaGreatZ34
import Derived.Test.YthfjgpjcepmnmaaGreatZRyO
import Derived.Test.YthfjgpjcepmnmaaGreatZSwF
import Derived.Test.YthfjgpjcepmnmaaGreatZ22
import Derived.Test.YthfjgpjcepmnmaaGreatZ29
import Derived.Test.YthfjgpjcepmnmaaGreatZ31
import Derived.Test.YthfjgpjcepmnmaaGreatZ47
import Derived.Test.YthfjgpjcepmnmaaGreatZ37
import Derived.Test.YthfjgpjcepmnmaaGreatZ32
import Derived.Test.YthfjgpjcepmnmaaGreatZ16
import Derived.Laws.StructEq
import Derived.ChangeKeysEq
namespace Go.Proofs.YthfjgpjcepmnmaaGreat
set_option maxRecDepth 100000
set_option maxHeartbeats 4000000
open Go.RowKit Go.Shelf
def swJ (nu:Int) (ps:List Pt) (j:Nat):List Sd:=(plF (ps.take j) 0 6).map (mkS nu ps)
theorem swJ_zero (nu:Int) (ps:List Pt):swJ nu ps 0=[]:=rfl
theorem swJ_all (nu:Int) (ps:List Pt):swJ nu ps ps.length=swRow nu ps:=by unfold swJ;rw[List.take_length];rfl
theorem swJ_plF {ps:List Pt} {j:Nat} {q:Pt} (h:ps[j]?=some q):plF (ps.take (j+1)) 0 6=if q.wn=6 then plF (ps.take j) 0 6++[(j:Int)] else plF (ps.take j) 0 6:=by
 have hj:j<ps.length:=(List.getElem?_eq_some_iff.1 h).1
 rw[List.take_add_one,h,Option.toList_some,plF_snoc,List.length_take,Nat.min_eq_left (Nat.le_of_lt hj),Nat.zero_add]
theorem swJ_yes {nu:Int} {ps:List Pt} {j:Nat} {q:Pt} (h:ps[j]?=some q) (h6:q.wn=6):swJ nu ps (j+1)=swJ nu ps j++[⟨nu,(j:Int),q⟩]:=by
 unfold swJ
 rw[swJ_plF h,if_pos h6,List.map_append,List.map_singleton]
 unfold mkS
 rw[Int.toNat_natCast,List.getD_eq_getElem?_getD,h]
 rfl
theorem swJ_no {nu:Int} {ps:List Pt} {j:Nat} {q:Pt} (h:ps[j]?=some q) (h6:¬q.wn=6):swJ nu ps (j+1)=swJ nu ps j:=by
 unfold swJ
 rw[swJ_plF h,if_neg h6]
theorem swJ_len (nu:Int) (ps:List Pt) (j:Nat):(swJ nu ps j).length≤j:=by
 unfold swJ
 rw[List.length_map]
 refine Nat.le_trans (plF_len _ _ _) ?_
 rw[List.length_take]
 exact Nat.min_le_left _ _
def swM (mb:Bool) (A:List Sd) (nu:Int) (ps:List Pt) (j:Nat):List Sd:=if mb then A else A++swJ nu ps j
theorem swM_zero (mb:Bool) (A:List Sd) (nu:Int) (ps:List Pt):swM mb A nu ps 0=A:=by unfold swM;cases mb <;> simp[swJ_zero]
theorem swM_no {mb:Bool} {A:List Sd} {nu:Int} {ps:List Pt} {j:Nat} {q:Pt} (h:ps[j]?=some q) (h6:¬q.wn=6):swM mb A nu ps (j+1)=swM mb A nu ps j:=by unfold swM;rw[swJ_no h h6]
theorem swM_yes {A:List Sd} {nu:Int} {ps:List Pt} {j:Nat} {q:Pt} (h:ps[j]?=some q) (h6:q.wn=6):swM false A nu ps (j+1)=swM false A nu ps j++[⟨nu,(j:Int),q⟩]:=by
 show A++swJ nu ps (j+1)=A++swJ nu ps j++[_]
 rw[swJ_yes h h6,List.append_assoc]
theorem swM_len (mb:Bool) (A:List Sd) (nu:Int) (ps:List Pt) (j:Nat):(swM mb A nu ps j).length≤A.length+j:=by
 unfold swM
 cases mb
 ·simp only[Bool.false_eq_true,if_false]
  rw[List.length_append]
  have:=swJ_len nu ps j
  omega
 ·simp
theorem swM_all {R:List Rw} {F:List Fe} {k b:Nat} {f:Fe} (hk:k<R.length) (hn:(R.getD k Rw.none).nu=(b:Int)+1) (hf:F[b]?=some f):swK R F (k+1)=swM (tHas f.tr 6) (swK R F k) ((b:Int)+1) (R.getD k Rw.none).ps (R.getD k Rw.none).ps.length:=by
 rw[swK_next hk,swOne_mute hn hf]
 unfold swM
 cases tHas f.tr 6
 ·simp only[Bool.false_eq_true,if_false];rw[swJ_all]
 ·simp
theorem sd_few68 {m n:Nat} (h:m≤n) (hn:n≤68):m+1≤maxLen∧(m+1)*56≤140737488355328:=⟨by unfold maxLen;omega,by omega⟩
theorem sd_litV (Z:World) (s:Sd):Src (Z.alloc (.cells (sdc s).toArray 40)) (.slice (some ⟨Z.heap.size,0,none⟩) 1 1) 1 10 (sdc s):=lit_Src (cs:=(sdc s).toArray) (alloc_at Z _ _) rfl 1
theorem rlist21_ok (ok:Nat→Prop) (r:Nat) (v:Value) (p0:Pl) (gs:List Ent) (vt vf:Value) (ts:List Th) (F:List Fe) (R:List Rw) (w:World) (I:RSw ok w r v p0 gs vt vf ts F R) (hW:Calls Tryz.prog 75 #[.pointer (some ⟨r,0,none⟩),vt,vf] w fun e w'=>e=.returned (.int .i64 0)∧w.grownBy w' none):Calls Tryz.prog 20 #[.pointer (some ⟨r,0,none⟩),vt,vf] w fun e w'=>∃ v,e=.returned (.tuple #[v,.int .i64 0])∧DOwn w' w.heap.size v (swL R F)∧w.grownBy w' none:=by
 obtain⟨i0,hi,hz0,hz1,hz2⟩:=info_parts Tryz.linfoD
 obtain⟨pt,ct,rfl⟩:=I.th.form
 obtain⟨pf,cf,rfl⟩:=I.fe.form
 have H4:Hid (∀ c,(atC p0 gs c).2.length≤4):=I.rd.four
 have HEl:Hid (∀ k,k≤R.length→(swK R F k).length≤4*k):=swK_len (I.tab.ps4 I.rd.four)
 have HA0:Hid (RSw ok w r v p0 gs (.slice pt ts.length ct) (.slice pf F.length cf) ts F R):=I
 clear I
 go_enter Tryz.func20,Tryz.ntmps20
 go_wp2_with fail
 refine hW.mono ?_
 rintro e1 w1 ⟨rfl,g1⟩
 have HG1:Hid (w.grownBy w1 none):=g1
 have HA:Hid (RSw ok w1 r v p0 gs (.slice pt ts.length ct) (.slice pf F.length cf) ts F R):=HA0.out.keep g1
 clear hW g1 HA0
 go_wp2_with fail
 go_loopg [9,10,11,12,13,14,15] R.length (fun gk v y _ _ _ _ _ wr=>∃ (k m:Nat) (p:Option Addr) (c:Nat),k+gk=R.length∧v=.slice p m c∧y=.int .i64 (lastR R k)∧Hid (m=(swK R F k).length∧DOwn wr w1.heap.size (.slice p m c) (swK R F k)∧w1.grownBy wr none))
 case atStart=>exact⟨0,0,none,0,Nat.zero_add _,rfl,rfl,rfl,RecT.Own.nil _ _ _ _,grown_refl _ _⟩
 case round =>
  obtain⟨k,m0,p,c,hgk,rfl,rfl,HK⟩:=hrel
  obtain⟨U,hU⟩:∃ U,U=wr:=⟨_,rfl⟩
  subst hU
  have Hk:Hid (k≤R.length∧k+gk=R.length):=⟨by omega,hgk⟩
  obtain⟨la,hla⟩:∃ la,la=lastR R k:=⟨_,rfl⟩
  have Hla:Hid (la=lastR R k):=hla
  rw[←hla]
  clear hgk hla
  go_upto_block 2 with fail
  go_cut [11,12] from 23 to 61 (fun y _ wc=>∃ best:Int,y=.int .i64 best∧BsU ts la ts.length best∧U.grownBy wc none)
  case first =>
   go_wp2_with fail
   go_loopw [11,12] (fun y z wr=>∃ (i:Nat) (best:Int),i≤ts.length∧z=.int .i64 (i:Int)∧y=.int .i64 best∧Hid (BsU ts la i best∧U.grownBy wr none)) (fun _ z _=>ts.length - (intOf z).toNat)
   case atStart=>exact⟨0,-1,Nat.zero_le _,rfl,rfl,BsU.start _ _,grown_refl _ _⟩
   case round =>
    obtain⟨i,best,hi',rfl,rfl,HB⟩:=hrel
    obtain⟨Q,hQ⟩:∃ Q,Q=wr:=⟨_,rfl⟩
    subst hQ
    by_cases hi2:i<ts.length
    ·have i1:(i:Int)<(ts.length:Int):=Int.ofNat_lt.2 hi2
     have hwk:=wrap_next (k:=i) (Nat.le_trans (Nat.le_of_lt hi2) (Nat.le_trans HA.out.few (by decide)))
     have HM:Hid (ts.length - (intOf (.int .i64 ((i:Int)+1))).toNat<ts.length - (intOf (.int .i64 (i:Int))).toNat):=meas_k hi2
     obtain⟨gT,oT,cT,eT,-⟩:=th_there HA.out.th hi2
     injection eT with eT eT2 eT3
     clear eT2 eT3
     subst eT
     obtain⟨s,hs⟩:∃ s,ts[i]?=some s:=⟨_,List.getElem?_eq_getElem hi2⟩
     have gQ:=grown_trans HK.out.2.2 HB.out.2
     obtain⟨-,-,s2,s3,-⟩:=th_cells (rec_thW (HA.out.th.keep gQ) hs)
     have Hs:Hid (ts[i]?=some s∧i<ts.length):=⟨hs,hi2⟩
     clear hi' hi2 hs
     by_cases h4:s.place=4
     ·have e1:(s.place == 4)=true:=by rw[h4];rfl
      by_cases h5:la<s.stamp
      ·have e2:decide (la<s.stamp)=true:=decide_eq_true h5
       rcases id HB.out.1 with ⟨eb,-⟩ | ⟨b,t,eb,hbi,ht,-⟩
       ·subst eb
        have HN:Hid (BsU ts la (i+1) (i:Int)):=HB.out.1.first Hs.out.1 h4 h5
        rw[h4] at s2
        clear h4 h5
        go_upto_region 10 with fail
        go_quiet (fail)
        clear s2 s3 e1 e2
        go_wp2_with fail
        go_roundw
        case rel=>exact⟨i+1,(i:Int),Hs.out.2,by first | rfl | (rw[hwk];rfl) | go_num,rfl,HN.out,grown_trans HB.out.2 (grown_drewN _ _ _)⟩
        case measure=>first | exact HM.out | (rw[hwk];exact HM.out)
       ·subst eb
        obtain⟨-,-,-,t3,-⟩:=th_cells (rec_thW (HA.out.th.keep gQ) ht)
        have b0:¬((b:Int)<0):=by omega
        have b1:(b:Int)<(ts.length:Int):=by have:=Hs.out.2;omega
        have b2:(0:Int)≤(b:Int):=by omega
        by_cases h6:s.stamp<t.stamp
        ·have e3:decide (s.stamp<t.stamp)=true:=decide_eq_true h6
         have HN:Hid (BsU ts la (i+1) (i:Int)):=HB.out.1.less ht Hs.out.1 h4 h5 h6
         rw[h4] at s2
         clear h4 h5 h6 hbi ht
         go_upto_region 10 with fail
         go_quiet (fail)
         clear s2 s3 t3 e1 e2 e3
         go_wp2_with fail
         go_roundw
         case rel=>exact⟨i+1,(i:Int),Hs.out.2,by first | rfl | (rw[hwk];rfl) | go_num,rfl,HN.out,grown_trans HB.out.2 (grown_drewN _ _ _)⟩
         case measure=>first | exact HM.out | (rw[hwk];exact HM.out)
        ·have e3:decide (s.stamp<t.stamp)=false:=decide_eq_false h6
         have HN:Hid (BsU ts la (i+1) (b:Int)):=HB.out.1.more ht Hs.out.1 h6
         rw[h4] at s2
         clear h4 h5 h6 hbi ht
         go_upto_region 10 with fail
         go_quiet (fail)
         clear s2 s3 t3 e1 e2 e3
         go_wp2_with fail
         go_roundw
         case rel=>exact⟨i+1,(b:Int),Hs.out.2,by first | rfl | (rw[hwk];rfl) | go_num,rfl,HN.out,grown_trans HB.out.2 (grown_drewN _ _ _)⟩
         case measure=>first | exact HM.out | (rw[hwk];exact HM.out)
      ·have e2:decide (la<s.stamp)=false:=decide_eq_false h5
       have HN:Hid (BsU ts la (i+1) best):=HB.out.1.skip Hs.out.1 (fun q=>h5 q.2)
       rw[h4] at s2
       clear h4 h5
       go_upto_region 10 with fail
       go_quiet (fail)
       clear s2 s3 e1 e2
       go_wp2_with fail
       go_roundw
       case rel=>exact⟨i+1,best,Hs.out.2,by first | rfl | (rw[hwk];rfl) | go_num,rfl,HN.out,grown_trans HB.out.2 (grown_drewN _ _ _)⟩
       case measure=>first | exact HM.out | (rw[hwk];exact HM.out)
     ·have e1:(s.place == 4)=false:=by simpa using h4
      have HN:Hid (BsU ts la (i+1) best):=HB.out.1.skip Hs.out.1 (fun q=>h4 q.1)
      clear h4
      go_upto_region 10 with fail
      go_quiet (fail)
      clear s2 s3 e1
      go_wp2_with fail
      go_roundw
      case rel=>exact⟨i+1,best,Hs.out.2,by first | rfl | (rw[hwk];rfl) | go_num,rfl,HN.out,grown_trans HB.out.2 (grown_drewN _ _ _)⟩
      case measure=>first | exact HM.out | (rw[hwk];exact HM.out)
    ·obtain rfl:i=ts.length:=Nat.le_antisymm hi' (Nat.le_of_not_lt hi2)
     have i1:¬(ts.length:Int)<(ts.length:Int):=Int.lt_irrefl _
     have HE:Hid (BsU ts la ts.length best∧U.grownBy Q none):=HB.out
     clear hi' hi2 HB
     go_wp2_with fail
     go_meet
     case rel=>exact⟨best,rfl,HE.out.1,HE.out.2⟩
  case rest =>
   obtain⟨best,rfl,hB,hG⟩:=hcut
   obtain⟨X,hX⟩:∃ X,X=wc:=⟨_,rfl⟩
   subst hX
   have HX:Hid (DOwn X w1.heap.size (.slice p m0 c) (swK R F k)∧w1.grownBy X none∧m0=(swK R F k).length):=⟨own_grow HK.out.2.1 hG,grown_trans HK.out.2.2 hG,HK.out.1⟩
   rw[Hla.out] at hB
   have he:=BsU.end HA.out.tab Hk.out.1 hB
   clear hB hG HK
   rcases he with ⟨ek,rfl⟩ | ⟨hkl,b,t,rfl,ht,hst,hnu⟩
   ·have HF:Hid (DOwn X w.heap.size (.slice p m0 c) (swL R F)∧w.grownBy X none):=⟨own_big (by have h9:=HX.out.1;rw[ek,swK_all] at h9;exact h9) HG1.out.size,grown_trans HG1.out HX.out.2.1⟩
    clear ek HX
    go_wp2_with fail
    go_ret2
    exact⟨_,rfl,HF.out.1,HF.out.2⟩
   ·have hbl:b<ts.length:=(List.getElem?_eq_some_iff.1 ht).1
    have hbf:b<F.length:=by rw[←HA.out.tab.len];exact hbl
    obtain⟨f,hf⟩:∃ f,F[b]?=some f:=⟨_,List.getElem?_eq_getElem hbf⟩
    have b0:¬((b:Int)<0):=by omega
    have b1:(b:Int)<(ts.length:Int):=by omega
    have b2:(0:Int)≤(b:Int):=by omega
    have b3:(b:Int)<(F.length:Int):=by omega
    have hwb:=wrap_next (k:=b) (Nat.le_trans (Nat.le_of_lt hbl) (Nat.le_trans HA.out.few (by decide)))
    obtain⟨gT,oT,cT,eT,-⟩:=th_there HA.out.th hbl
    injection eT with eT eT2 eT3
    clear eT2 eT3
    subst eT
    obtain⟨gF,oF,cF,eF,-⟩:=fe_there HA.out.fe hbf
    injection eF with eF eF2 eF3
    clear eF2 eF3
    subst eF
    obtain⟨j0,t',ht',-,er⟩:=HA.out.tab.row (show R.getD k Rw.none∈R by rw[getD_in hkl];exact List.getElem_mem _)
    have hjb:j0=b:=by rw[er] at hnu;have z:(j0:Int)+1=(b:Int)+1:=hnu;omega
    subst hjb
    rw[ht] at ht'
    obtain rfl:t=t':=Option.some.inj ht'
    have HRw:Hid (k<R.length∧ts[j0]?=some t∧F[j0]?=some f∧t.stamp=lastR R (k+1)∧swK R F (k+1)=swM (tHas f.tr 6) (swK R F k) ((j0:Int)+1) (atC p0 gs t.card).2 (atC p0 gs t.card).2.length):=⟨hkl,ht,hf,by rw[lastR_next];exact hst,by have z:=swM_all hkl hnu hf;rw[er] at z;exact z⟩
    have CC:=rcard_book ok r v p0 gs t X (HA.out.rd.keep HX.out.2.1)
    obtain⟨h,hh⟩:∃ h,h=(atC p0 gs t.card).1:=⟨_,rfl⟩
    obtain⟨ps,hps⟩:∃ ps,ps=(atC p0 gs t.card).2:=⟨_,rfl⟩
    obtain⟨x,hx⟩:∃ x,x=atX p0 gs t.card:=⟨_,rfl⟩
    obtain⟨mb,hmb⟩:∃ mb,mb=tHas f.tr 6:=⟨_,rfl⟩
    obtain⟨D,hD⟩:∃ D,D=swK R F k:=⟨_,rfl⟩
    have HD:Hid (D.length≤64∧ps.length≤4):=⟨by rw[hD];have:=HEl.out k Hk.out.1;have:=HA.out.tab.few;have:=Hk.out.1;omega,by rw[hps];exact H4.out _⟩
    have Hmb:Hid (mb=tHas f.tr 6):=hmb
    rw[←hh,←hps,←hx] at CC
    rw[←hps,←hD,←hmb] at HRw
    rw[←hD] at HX
    unfold CrPost cv thv at CC
    obtain⟨t0,t1,t2,t3,t4,t5,t6,t7,t8,t9,t10⟩:=th_cells (rec_thW (HA.out.th.keep HX.out.2.1) ht)
    clear hkl ht hst hnu hbl hbf hf ht' er hh hps hx hmb hD
    go_wp2_with fail
    refine CC.mono ?_
    rintro e3 w3 ⟨u,rfl,ou,g3⟩
    obtain⟨pu,cu,rfl⟩:∃ p c,u=.slice p ps.length c:=by obtain⟨p,c,e,_⟩:=own_slice ou;exact⟨p,c,e⟩
    obtain⟨Z,hZ⟩:∃ Z,Z=w3.alloc (.cells #[.string h.nm,.int .u8 h.su,.int .u8 h.kd,.int .i64 h.co,.int .i64 h.po,.int .i64 h.he,.int .u16 h.tr,.bool h.tk,.slice pu ps.length cu] 54):=⟨_,rfl⟩
    have HZ:Hid (CdK Z w3.heap.size h (.slice pu ps.length cu)∧POwn Z X.heap.size (.slice pu ps.length cu) ps∧X.grownBy Z none):=by
     have g:w3.grownBy Z none:=by rw[hZ];exact World.grownBy_alloc _ _ none
     exact⟨by rw[hZ];exact alloc_at _ _ _,own_grow ou g,grown_trans g3 g⟩
    clear CC ou g3 t0 t1 t2 t3 t4 t5 t6 t7 t8 t9 t10
    go_upto_region 16 with fail
    rw[←hZ]
    obtain⟨nc,hnc⟩:∃ nc,nc=w3.heap.size:=⟨_,rfl⟩
    rw[←hnc] at HZ ⊢
    clear hZ hnc
    go_wp2_with fail
    go_loopw [9,15] (fun v y wr=>∃ (q m:Nat) (pq:Option Addr) (cq:Nat),q≤ps.length∧y=.int .i64 (q:Int)∧v=.slice pq m cq∧Hid (m=(swM mb D ((j0:Int)+1) ps q).length∧DOwn wr w1.heap.size (.slice pq m cq) (swM mb D ((j0:Int)+1) ps q)∧w1.grownBy wr none∧CdK wr nc h (.slice pu ps.length cu)∧POwn wr X.heap.size (.slice pu ps.length cu) ps)) (fun _ y _=>ps.length - (intOf y).toNat)
    case atStart=>exact⟨0,m0,p,c,Nat.zero_le _,rfl,rfl,by rw[swM_zero];exact HX.out.2.2,by rw[swM_zero];exact RecT.Own.grow HX.out.1 HZ.out.2.2,grown_trans HX.out.2.1 HZ.out.2.2,HZ.out.1,HZ.out.2.1⟩
    case round =>
     obtain⟨q,m,pq,cq,hq',rfl,rfl,HY⟩:=hrel
     obtain⟨Y,hY⟩:∃ Y,Y=wr:=⟨_,rfl⟩
     subst hY
     have k8:Y.cell? ⟨nc,8,none⟩=some (.slice pu ps.length cu):=(block_cell HY.out.2.2.2.1 8).trans rfl
     by_cases hq:q<ps.length
     ·skip
      have hqq:(q:Int)<(ps.length:Int):=Int.ofNat_lt.2 hq
      have q0:(0:Int)≤(q:Int):=by omega
      have hwm:=wrap_next (k:=q) (Nat.le_trans (Nat.le_of_lt hq) (Nat.le_trans HD.out.2 (by decide)))
      have HMk:Hid (ps.length - (intOf (.int .i64 ((q:Int)+1))).toNat<ps.length - (intOf (.int .i64 (q:Int))).toNat):=meas_k hq
      obtain⟨gp,op,cp,ep,hpt⟩:=(POwn.at HY.out.2.2.2.2).part (Nat.lt_of_le_of_lt (Nat.zero_le _) hq)
      obtain⟨z,hz⟩:∃ z,ps[q]?=some z:=⟨_,List.getElem?_eq_getElem hq⟩
      obtain⟨d0,d1,d2,d3,d4,d5,d6,d7⟩:=hpt q z hz
      injection ep with ep ep2 ep3
      clear ep2 ep3
      subst ep
      have Hq:Hid (q<ps.length∧ps[q]?=some z):=⟨hq,hz⟩
      clear hq' hq hz hpt
      by_cases w6:z.wn=6
      ·have e6:(z.wn == 6)=true:=by rw[w6];rfl
       obtain⟨-,-,f2,-⟩:=fe_cells (rec_feV (HA.out.fe.keep HY.out.2.2.1) HRw.out.2.2.1)
       have CH:∀ W,Calls Tryz.prog 77 #[.int .u16 f.tr,.int .u8 6] W fun e w'=>e=.returned (.bool mb)∧w'=W:=fun W=>by rw[Hmb.out];exact r4has_any f.tr 6 W
       have H6:Hid (z.wn=6):=w6
       clear w6
       go_wp2_with fail
       refine(CH Y).mono ?_
       rintro e4 w4 ⟨rfl,h4⟩
       obtain rfl:Y=w4:=h4.symm
       clear CH f2
       cases mb with
       | true =>
        clear d0 d1 d2 d3 d4 d5 d6 d7
        go_wp2_with fail
        go_roundw
        case rel=>exact⟨q+1,m,pq,cq,Hq.out.1,by first | rfl | (rw[hwm];rfl) | go_num,rfl,HY.out⟩
        case measure=>first | exact HMk.out | (rw[hwm];exact HMk.out)
       | false =>
        have HN:Hid (swM false D ((j0:Int)+1) ps (q+1)=swM false D ((j0:Int)+1) ps q++[⟨(j0:Int)+1,(q:Int),z⟩]):=swM_yes Hq.out.2 H6.out
        have HLn:Hid (m+1≤maxLen∧(m+1)*56≤140737488355328):=sd_few68 (show m≤D.length+q by rw[HY.out.1];exact swM_len _ _ _ _ _) (by have:=HD.out;have:=Hq.out.1;omega)
        obtain⟨E,hE⟩:∃ E,E=swM false D ((j0:Int)+1) ps q:=⟨_,rfl⟩
        have HE:Hid (E=swM false D ((j0:Int)+1) ps q∧m=E.length):=⟨hE,by rw[hE];exact HY.out.1⟩
        have HOa:Hid (Y.ownsRow w1.heap.size 40 10 (.slice pq m cq) m (sdR.cs E)):=by
         have h9:=HY.out.2.1
         unfold DOwn RecT.Own at h9
         rw[←hE,←HE.out.2] at h9
         exact h9
        clear hE
        obtain⟨Q,hQ⟩:∃ Q,Q=Y.alloc (.cells (sdc (⟨(j0:Int)+1,(q:Int),z⟩:Sd)).toArray 40):=⟨_,rfl⟩
        have HGQ:Hid (Y.grownBy Q none):=by rw[hQ];exact World.grownBy_alloc _ _ none
        have HSr:Hid (Src Q (.slice (some ⟨Y.heap.size,0,none⟩) 1 1) 1 10 (sdc (⟨(j0:Int)+1,(q:Int),z⟩:Sd))):=by rw[hQ];exact sd_litV Y _
        have HOb:Hid (Q.ownsRow w1.heap.size 40 10 (.slice pq m cq) m (sdR.cs E)):=own_grow HOa.out HGQ.out
        have HL8:Hid (w1.heap.size≤Q.heap.size):=Nat.le_trans HY.out.2.2.1.size HGQ.out.size
        have hneP:some gp≠(Value.slice pq m cq).ownBlock:=by obtain⟨cs9,fr9,hb9⟩:=own_typed HY.out.2.2.2.2 gp rfl;exact own_tag HOa.out hb9 (by decide)
        have hneC:some nc≠(Value.slice pq m cq).ownBlock:=own_tag HOa.out HY.out.2.2.2.1 (by decide)
        have HNe:Hid (some gp≠(Value.slice pq m cq).ownBlock∧some nc≠(Value.slice pq m cq).ownBlock):=⟨hneP,hneC⟩
        clear hneP hneC
        unfold sdc at hQ
        go_upto_region 18 with (at_builtin;(try rw[←hQ]);refine lwpl_app (by rfl) (.tmp 102) (.tmp 112) 27 rfl w1.heap.size 40 i0 _ 10 56 Tryz.underlying27 hi hz0 hz1 hz2 rfl (by decide) (.slice pq m cq) m (sdR.cs E) rfl HOb.out (.slice (some ⟨Y.heap.size,0,none⟩) 1 1) 1 (sdc (⟨(j0:Int)+1,(q:Int),z⟩:Sd)) rfl HSr.out (sdc_ones _) HLn.out.1 HLn.out.2 HL8.out ?_;intro v9 w9 o9 g9 _;have HO9:Hid _:=o9;have HG9:Hid (Q.grownBy w9 (Value.slice pq m cq).ownBlock):=g9;clear o9 g9)
        have HF:Hid (m+1=(swM false D ((j0:Int)+1) ps (q+1)).length∧DOwn w9 w1.heap.size v9 (swM false D ((j0:Int)+1) ps (q+1))∧w1.grownBy w9 none∧CdK w9 nc h (.slice (some ⟨gp,op,none⟩) ps.length cu)∧POwn w9 X.heap.size (.slice (some ⟨gp,op,none⟩) ps.length cu) ps):=by
         rw[HN.out,←HE.out.1]
         refine⟨by rw[List.length_append,←HE.out.2];rfl,RecT.more HO9.out HE.out.2,grown_own (grown_trans HY.out.2.2.1 HGQ.out) HG9.out (fun y e=>(World.ownsRow.lt HOb.out y e).1),?_,?_⟩
         ·exact grown_keep HG9.out (grown_keep HGQ.out HY.out.2.2.2.1 (by simp)) HNe.out.2
         ·exact World.ownsRow.kept (own_grow HY.out.2.2.2.2 HGQ.out) HG9.out (Or.inr (fun z=>HNe.out.1 (by rw[←z];rfl)))
        obtain⟨pv,kv,ev9,-⟩:=own_slice HO9.out
        subst ev9
        clear d0 d1 d2 d3 d4 d5 d6 d7 hQ
        go_wp2_with fail
        go_roundw
        case rel=>exact⟨q+1,m+1,pv,kv,Hq.out.1,by first | rfl | (rw[hwm];rfl) | go_num,rfl,HF.out⟩
        case measure=>first | exact HMk.out | (rw[hwm];exact HMk.out)
      ·have e6:(z.wn == 6)=false:=by simpa using w6
       have HN:Hid (swM mb D ((j0:Int)+1) ps (q+1)=swM mb D ((j0:Int)+1) ps q):=swM_no Hq.out.2 w6
       clear w6
       go_wp2_with fail
       go_roundw
       case rel=>exact⟨q+1,m,pq,cq,Hq.out.1,by first | rfl | (rw[hwm];rfl) | go_num,rfl,by rw[HN.out];exact HY.out⟩
       case measure=>first | exact HMk.out | (rw[hwm];exact HMk.out)
     ·obtain rfl:q=ps.length:=Nat.le_antisymm hq' (Nat.le_of_not_lt hq)
      have k1:¬(ps.length:Int)<(ps.length:Int):=Int.lt_irrefl _
      clear hq' hq
      go_wp2_with fail
      go_roundg (R.length - (k+1))
      case measure=>have:=HRw.out.1;have:=Hk.out.2;omega
      case rel=>exact⟨k+1,m,pq,cq,by have:=HRw.out.1;omega,rfl,by rw[HRw.out.2.2.2.1],by rw[HRw.out.2.2.2.2];exact HY.out.1,by rw[HRw.out.2.2.2.2];exact HY.out.2.1,HY.out.2.2.1⟩
theorem chk_swap {q:Pt} (h:chk q=0) (hw:q.wn=6):16≤q.vb∧q.vb≤19∧(q.vb=16∨q.vb=19→1≤q.ct∧q.ct≤99):=by
 unfold chk at h
 split at h
 ·omega
 ·split at h
  ·omega
  ·rename_i h1 h2
   split at h
   ·omega
   ·split at h
    ·omega
    ·rename_i h3 h4
     have e1:cls q.vb=3:=by
      rw[hw] at h2
      by_cases c:cls q.vb=wnt 6
      ·rw[c];rfl
      ·exact absurd (Or.inl c) h2
     have e2:16≤q.vb∧q.vb≤19:=by
      unfold cls at e1
      repeat' split at e1
      all_goals omega
     refine⟨e2.1,e2.2,fun hv=>?_⟩
     have e3:cfit q.vb q.ct=true:=by
      cases hc:cfit q.vb q.ct
      ·exact absurd (Or.inl hc) h4
      ·rfl
     unfold cfit at e3
     rcases hv with hv | hv <;> rw[hv] at e3 <;> by_cases h0:q.ct=0
     ·rw[if_pos h0] at e3;exact absurd e3 (by decide)
     ·rw[if_neg h0,Bool.and_eq_true,decide_eq_true_eq,decide_eq_true_eq] at e3;exact e3
     ·rw[if_pos h0] at e3;exact absurd e3 (by decide)
     ·rw[if_neg h0,Bool.and_eq_true,decide_eq_true_eq,decide_eq_true_eq] at e3;exact e3
theorem chk_of {c:Cd} (h:cchk c=0):chkPs c.kd c.ps=0:=by
 unfold cchk at h
 repeat' split at h
 all_goals first | omega | exact h
theorem swGood_at {ok:Nat→Prop} {w:World} {b:Nat} {es:List Ent} {p:Pl} (B:Book ok w b es p):SwGood (atC p es):=fun c q hq hw=>by
 unfold atC at hq
 split at hq
 ·split at hq
  ·rename_i e he
   exact chk_swap (chkPs_all _ _ (chk_of (B.may e (List.mem_of_getElem? he))) q hq) hw
  ·simp at hq
 ·simp at hq
theorem swGood_no:SwGood (fun _=>(Hd.none,[])):=fun _ q hq=>by simp at hq
theorem SIn.of' {ok:Nat→Prop} {w:World} {b:Nat} {es:List Ent} {p:Pl} {vt vf:Value} {ts:List Th} {fs:List Fe} (B:Book ok w b es p) (T:thR.At w vt ts) (F:feR.At w vf fs):SIn w (.pointer (some ⟨b,0,none⟩)) vt vf (refE p ts.length) (es.length:Int) (atC p es) ts fs:=⟨LIn.of' B T F,fun hr X t g h1 h2=>by
 have hs:p.shut=true:=by
  unfold refE at hr
  repeat' split at hr
  all_goals first | assumption | omega
 have h:=tcard_book ok b es p t X (B.keep g)
 rwa [show atX p es t.card=0 from if_pos ⟨hs,h1,h2⟩] at h,swGood_at B⟩
theorem SIn.of {ok:Nat→Prop} {w:World} {b:Nat} {es:List Ent} {p:Pl} {vt vf:Value} {ts:List Th} {fs:List Fe} (B:Book ok w b es p) (T:thR.At w vt ts) (F:feR.At w vf fs) (_:fs.length≤4096):SIn w (.pointer (some ⟨b,0,none⟩)) vt vf (refE p ts.length) (es.length:Int) (atC p es) ts fs:=SIn.of' B T F
theorem SIn.no {w:World} {v vt vf:Value} {ts:List Th} {fs:List Fe} (B:NoBk w v) (T:thR.At w vt ts) (F:feR.At w vf fs):SIn w v vt vf 1 0 (fun _=>(Hd.none,[])) ts fs:=⟨LIn.no B T F,fun h=>by omega,swGood_no⟩


structure RIn (ok:Nat→Prop) (w:World) (r:Nat) (v:Value) (p:Pl) (gs:List Ent) (vt vf:Value) (ts:List Th) (F:List Fe):Prop where
 rd:RD ok w r v p gs
 th:thR.At w vt ts
 fe:feR.At w vf F
 good:SwGood (atC p gs)
 tr:TrI F
theorem RIn.keep {ok:Nat→Prop} {w w':World} {r:Nat} {v:Value} {p:Pl} {gs:List Ent} {vt vf:Value} {ts:List Th} {F:List Fe} (h:RIn ok w r v p gs vt vf ts F) (g:w.grownBy w' none):RIn ok w' r v p gs vt vf ts F:=⟨h.rd.keep g,h.th.keep g,h.fe.keep g,h.good,h.tr⟩
theorem refE_0 {p:Pl} {n:Nat} (h:refE p n=0):p.shut=true∧n≤2048:=by
 unfold refE at h
 split at h
 ·cases h
 ·split at h
  ·exact⟨by assumption,by omega⟩
  ·cases h
theorem RIn.sw {ok:Nat→Prop} {w:World} {r:Nat} {v:Value} {p:Pl} {gs:List Ent} {vt vf:Value} {ts:List Th} {F:List Fe} (h:RIn ok w r v p gs vt vf ts F) (hb:bgE (refE p ts.length) (gs.length:Int) (atC p gs) ts F 1=0):∃ R,tabR (gs.length:Int) (atC p gs) ts F=some R∧RSw ok w r v p gs vt vf ts F R:=by
 obtain⟨h1,R,hR,hT⟩:=bg_tab hb
 obtain⟨h2,h3⟩:=refE_0 h1
 exact⟨R,hR,h.rd,h.th,h.fe,hT,h2,h3,h.good⟩
theorem rList21_any (ok:Nat→Prop) (r:Nat) (v:Value) (p:Pl) (gs:List Ent) (vt vf:Value) (ts:List Th) (F:List Fe) (w:World) (I:RIn ok w r v p gs vt vf ts F):Calls Tryz.prog 20 #[.pointer (some ⟨r,0,none⟩),vt,vf] w fun e w'=>∃ v,e=.returned (.tuple #[v,.int .i64 (bgE (refE p ts.length) (gs.length:Int) (atC p gs) ts F 1)])∧DOwn w' w.heap.size v (swT (refE p ts.length) (gs.length:Int) (atC p gs) ts F)∧w.grownBy w' none:=by
 have C1:=rwrong21_any ok r v p gs vt vf ts F w I.rd I.th I.fe I.tr
 rw[←bgE_lk] at C1
 by_cases hb:bgE (refE p ts.length) (gs.length:Int) (atC p gs) ts F 1=0
 ·obtain⟨R,hR,hI⟩:=I.sw hb
  rw[hb] at C1 ⊢
  rw[swT_ok hb hR]
  exact rlist21_ok ok r v p gs vt vf ts F R w hI C1
 ·have HN:Hid (swT (refE p ts.length) (gs.length:Int) (atC p gs) ts F=[]):=swT_no hb
  obtain⟨x,hx⟩:∃ x,x=bgE (refE p ts.length) (gs.length:Int) (atC p gs) ts F 1:=⟨_,rfl⟩
  rw[←hx] at C1 hb ⊢
  have ex:(x != 0)=true:=by simpa using hb
  obtain⟨pt,ct,rfl⟩:=I.th.form
  obtain⟨pf,cf,rfl⟩:=I.fe.form
  clear hb hx I
  go_enter Tryz.func20,Tryz.ntmps20
  go_wp2_with fail
  refine C1.mono ?_
  rintro e1 w1 ⟨rfl,g1⟩
  have HG1:Hid (w.grownBy w1 none):=g1
  clear C1 g1
  go_wp2_with fail
  go_ret2
  exact⟨_,rfl,by rw[HN.out];exact RecT.Own.nil _ _ _ _,HG1.out⟩
end Go.Proofs.YthfjgpjcepmnmaaGreat
namespace Go.Proofs.YthfjgpjcepmnmaaGreat
set_option maxHeartbeats 2000000
open Go.RowKit
theorem Tryz.info3iE:(Tryz.prog.info? 3).map (fun i=>(i.zero,i.size,i.bytes))=some (some (.int .i64 0),1,8):=by kernel_rfl

def samet (t u:Th):Bool:=decide (t.card=u.card∧t.owner=u.owner∧t.place=u.place∧t.stamp=u.stamp∧t.hurt=u.hurt∧(t.m0=u.m0∧t.m1=u.m1∧t.m2=u.m2∧t.m3=u.m3)∧t.done=u.done∧t.fresh=u.fresh)
theorem samet_iff {t u:Th}:samet t u=true↔t=u:=by
 unfold samet
 rw[decide_eq_true_iff]
 constructor
 ·rintro⟨h1,h2,h3,h4,h5,⟨h6,h7,h8,h9⟩,h10,h11⟩
  cases t
  cases u
  simp only at h1 h2 h3 h4 h5 h6 h7 h8 h9 h10 h11
  subst h1 h2 h3 h4 h5 h6 h7 h8 h9 h10 h11
  rfl
 ·rintro rfl
  simp
theorem eqg_th (op:BinOp) (x y:Operand) (xs ys:Array Value) (w:World):(eqGuard op 100 x y (.agg xs) (.agg ys)).run Tryz.prog w=.ok () w:=run_eqGuard_agg w op 100 x y xs ys (by kernel_rfl)
theorem equalIn_four (a0 a1 a2 a3 b0 b1 b2 b3:Int) (w:World):(Op.equalIn 9999 98 (.agg #[.int .i64 a0,.int .i64 a1,.int .i64 a2,.int .i64 a3]) (.agg #[.int .i64 b0,.int .i64 b1,.int .i64 b2,.int .i64 b3])).run Tryz.prog w=.ok (decide (a0=b0∧a1=b1∧a2=b2∧a3=b3)) w:=by
 obtain⟨i0,hi,_⟩:=info_parts Tryz.info3iE
 have u3:=Tryz.underlying3
 have i3:=Tryz.isAgg3
 have z3:=Tryz.sizeOf3
 have hc:Tryz.prog.cellsOf 3=1:=by kernel_rfl
 rw[show (9999:Nat)=9998+1 from rfl,run_equalIn_array w 9998 _ _ Tryz.underlying98 hi,hc,show List.range 4=[0,1,2,3] from rfl]
 simp only[Op.eqItems]
 go_simp
 by_cases h0:a0=b0
 case neg=>simp[h0]
 simp only[h0]
 by_cases h1:a1=b1
 case neg=>simp[h1]
 simp only[h1]
 by_cases h2:a2=b2
 case neg=>simp[h2]
 simp only[h2]
 by_cases h3:a3=b3
 case neg=>simp[h3]
 simp[h3]
theorem equalIn_th (ac ao ap ax ah am0 am1 am2 am3 ad bc bo bp bx bh bm0 bm1 bm2 bm3 bd:Int) (af bf:Bool) (w:World):(Op.equalIn 10000 100 (.agg #[.int .i64 ac,.int .i64 ao,.int .u8 ap,.int .i64 ax,.int .i64 ah,.int .i64 am0,.int .i64 am1,.int .i64 am2,.int .i64 am3,.int .i64 ad,.bool af]) (.agg #[.int .i64 bc,.int .i64 bo,.int .u8 bp,.int .i64 bx,.int .i64 bh,.int .i64 bm0,.int .i64 bm1,.int .i64 bm2,.int .i64 bm3,.int .i64 bd,.bool bf])).run Tryz.prog w=.ok (samet (⟨ac,ao,ap,ax,ah,am0,am1,am2,am3,ad,af⟩:Th) (⟨bc,bo,bp,bx,bh,bm0,bm1,bm2,bm3,bd,bf⟩:Th)) w:=by
 unfold samet
 have hS:Tryz.prog.underlying 100=some (.struct (Tryz.prog.fieldsOf 100)):=by kernel_rfl
 have hp:Tryz.prog.stoodInHeld 100=false:=by kernel_rfl
 have u3:=Tryz.underlying3
 have i3:=Tryz.isAgg3
 have z3:=Tryz.sizeOf3
 have u4:=Tryz.underlying4
 have i4:=Tryz.isAgg4
 have z4:=Tryz.sizeOf4
 have uP:=Tryz.underlying97
 have iP:=Tryz.isAgg97
 have zP:=Tryz.sizeOf97
 have iA:=Tryz.isAgg98
 have zA:=Tryz.sizeOf98
 have h4:=equalIn_four am0 am1 am2 am3 bm0 bm1 bm2 bm3
 rw[show (10000:Nat)=9999+1 from rfl,run_equalIn_agg w 9999 100 _ _ hS hp]
 simp only[Program.fieldsOf,Tryz.underlying100]
 go_simp
 by_cases hc:ac=bc
 case neg=>simp[hc]
 simp only[hc]
 by_cases ho:ao=bo
 case neg=>simp[ho]
 simp only[ho]
 by_cases hp:ap=bp
 case neg=>simp[hp]
 simp only[hp]
 by_cases hx:ax=bx
 case neg=>simp[hx]
 simp only[hx]
 by_cases hh:ah=bh
 case neg=>simp[hh]
 simp only[hh]
 by_cases hm0:am0=bm0
 case neg=>simp[hm0]
 simp only[hm0]
 by_cases hm1:am1=bm1
 case neg=>simp[hm1]
 simp only[hm1]
 by_cases hm2:am2=bm2
 case neg=>simp[hm2]
 simp only[hm2]
 by_cases hm3:am3=bm3
 case neg=>simp[hm3]
 simp only[hm3]
 by_cases hd:ad=bd
 case neg=>simp[hd]
 simp only[hd]
 by_cases hf:af=bf
 case neg=>simp[hf]
 simp[hf]
theorem neq_th (ac ao ap ax ah am0 am1 am2 am3 ad bc bo bp bx bh bm0 bm1 bm2 bm3 bd:Int) (af bf:Bool) (w:World):(binOp .neq 100 (.agg #[.int .i64 ac,.int .i64 ao,.int .u8 ap,.int .i64 ax,.int .i64 ah,.int .i64 am0,.int .i64 am1,.int .i64 am2,.int .i64 am3,.int .i64 ad,.bool af]) (.agg #[.int .i64 bc,.int .i64 bo,.int .u8 bp,.int .i64 bx,.int .i64 bh,.int .i64 bm0,.int .i64 bm1,.int .i64 bm2,.int .i64 bm3,.int .i64 bd,.bool bf])).run Tryz.prog w=.ok (.bool (!samet (⟨ac,ao,ap,ax,ah,am0,am1,am2,am3,ad,af⟩:Th) (⟨bc,bo,bp,bx,bh,bm0,bm1,bm2,bm3,bd,bf⟩:Th))) w:=by
 rw[run_neq_struct,equalIn_th];rfl
end Go.Proofs.YthfjgpjcepmnmaaGreat
