import Derived.Test.YthfjgpjcepmnmaaGreatO34
import Derived.Test.YthfjgpjcepmnmaaGreatO25
import Derived.Test.YthfjgpjcepmnmaaGreatO0
import Derived.Test.YthfjgpjcepmnmaaGreatO29
namespace Go.Proofs.YthfjgpjcepmnmaaGreat
set_option maxRecDepth 100000
set_option maxHeartbeats 4000000
open Go.RowKit
theorem lL:∀ (ps:List Pt) (i:Nat) (m x:Int),x∈plF ps i m→∃ q:Nat,x=((i+q:Nat):Int)∧q<ps.length∧(ps.getD q Pt.none).wn=m
 | [],_,_,_,h=>by cases h
 | p :: ps,i,m,x,h=>by
  unfold plF at h
  have hrec:=fun z=>lL ps (i+1) m x z
  split at h
  ·rename_i hw
   rcases List.mem_cons.1 h with h | h
   ·exact⟨0,by simpa using h,by simp,by simpa using hw⟩
   ·obtain⟨q,a,b,c⟩:=hrec h
    exact⟨q+1,by rw[a];congr 1;omega,by simpa using b,by simpa using c⟩
  ·obtain⟨q,a,b,c⟩:=hrec h
   exact⟨q+1,by rw[a];congr 1;omega,by simpa using b,by simpa using c⟩
theorem vQ (ps:List Pt) (m:Int) (h:ps.length≤4):(plF ps 0 m).length≤4:=Nat.le_trans (qM _ _ _) h
def mkS (nu:Int) (ps:List Pt) (i:Int):Sd:=⟨nu,i,ps.getD i.toNat Pt.none⟩
def swU (nu:Int) (ps:List Pt) (k:Nat):List Sd:=((plF ps 0 6).take k).map (mkS nu ps)
theorem Dn (nu:Int) (ps:List Pt):swU nu ps (plF ps 0 6).length=bQ nu ps:=by unfold swU;rw[List.take_length];rfl
theorem zX {nu:Int} {ps:List Pt} {k:Nat} {x:Int} (h:(plF ps 0 6)[k]?=some x):swU nu ps (k+1)=swU nu ps k++[mkS nu ps x]:=by unfold swU;rw[List.take_add_one,h,List.map_append];rfl
theorem wM {nu:Int} {ps:List Pt} {k:Nat} (h:k≤(plF ps 0 6).length):(swU nu ps k).length=k:=by unfold swU;rw[List.length_map,List.length_take];omega
def je (w:World) (bv:Value) (n:Int) (cd:Int→Hd×List Pt):Prop:=∀ X t,w.grownBy X none→1≤t.card→t.card≤n→Calls Tryz.prog 197 #[bv,thv t] X (dj (cd t.card).1 (cd t.card).2 0 X)
theorem je.keep {w w':World} {bv:Value} {n:Int} {cd:Int→Hd×List Pt} (h:je w bv n cd) (g:w.grownBy w' none):je w' bv n cd:=fun X t q=>h X t (aa g q)
theorem Ce {m k n:Nat} (h:m=k) (hk:k<n) (hn:n≤4):m+1≤maxLen∧(m+1)*56≤140737488355328:=⟨by unfold maxLen;omega,by omega⟩
theorem qV (bv vt vf vl:Value) (n:Int) (cd:Int→Hd×List Pt) (ts:List Th) (j:Nat) (t:Th) (w:World) (A:thR.At w vt ts) (ht:ts[j]?=some t) (hl:ts.length≤2048) (C:je w bv n cd) (h1:1≤t.card) (h2:t.card≤n) (h4:(cd t.card).2.length≤4):Calls Tryz.prog 130 #[ch bv vt vf vl,.int .i64 ((j:Int)+1)] w fun e w'=>∃ v,e=.returned v∧bi w' w.heap.size v (bQ ((j:Int)+1) (cd t.card).2)∧w.grownBy w' none:=by
 obtain⟨i0,hi,hz0,hz1,hz2⟩:=info_parts Tryz.linfoD
 obtain⟨pt,ct,rfl⟩:=A.form
 have hjl:j<ts.length:=(List.getElem?_eq_some_iff.1 ht).1
 obtain⟨h,hh⟩:∃ h,h=(cd t.card).1:=⟨_,rfl⟩
 obtain⟨ps,hps⟩:∃ ps,ps=(cd t.card).2:=⟨_,rfl⟩
 have hC:∀ X,w.grownBy X none→Calls Tryz.prog 197 #[bv,thv t] X (dj h ps 0 X):=fun X q=>by rw[hh,hps];exact C X t q h1 h2
 rw[←hps] at h4 ⊢
 obtain⟨V,hV⟩:∃ V,V=w.alloc (.cells #[bv,.slice pt ts.length ct,vf,vl] 136):=⟨_,rfl⟩
 obtain⟨X,hX⟩:∃ X,X=V.alloc (.cells #[.int .i64 t.card,.int .i64 t.owner,.int .u8 t.place,.int .i64 t.stamp,.int .i64 t.hurt,.int .i64 t.m0,.int .i64 t.m1,.int .i64 t.m2,.int .i64 t.m3,.int .i64 t.done,.bool t.fresh] 100):=⟨_,rfl⟩
 have HV:Hid (bY X w.heap.size bv (.slice pt ts.length ct) vf vl∧w.grownBy X none∧ThB X V.heap.size t∧w.grownBy V none):=by
  have gr:w.grownBy V none:=by rw[hV];exact World.grownBy_alloc _ _ none
  have g2:V.grownBy X none:=by rw[hX];exact World.grownBy_alloc _ _ none
  exact⟨ae g2 (by rw[hV];exact ai _ _ _) (by simp),aa gr g2,by rw[hX];exact ai _ _ _,gr⟩
 have z1:((j:Int))<(ts.length:Int):=Int.ofNat_lt.2 hjl
 have wz:wrap64 (j:Int)=(j:Int):=by unfold wrap64;omega
 have wz2:IntKind.i64.wrap (j:Int)=(j:Int):=by rw[IntWalk.i64_in _ (by omega)]
 obtain⟨gT,oT,cT,eT,-⟩:=bG A hjl
 injection eT with eT eT2 eT3
 clear eT2 eT3
 subst eT
 obtain⟨s0,s1,s2,s3,s4,s5,s6,s7,s8,s9,s10⟩:=bc (gh (A.keep HV.out.2.2.2) ht)
 have CC:=hC X HV.out.2.1
 have HCs:Hid (∀ Y,X.grownBy Y none→Calls Tryz.prog 198 #[bv,thv t,.int .u8 6] Y fun e w'=>∃ v,e=.returned (.tuple #[v,.int .i64 0])∧OwT w' Y.heap.size v (plF ps 0 6)∧Y.grownBy w' none):=fun Y q=>xB bv t h ps 0 6 Y (fun q=>absurd rfl q) h4 (fun Z qz=>hC Z (aa (aa HV.out.2.1 q) qz))
 have H4:Hid (ps.length≤4):=h4
 have HS:Hid (bY V w.heap.size bv (.slice (some ⟨gT,oT,none⟩) ts.length ct) vf vl):=by rw[hV];exact ai _ _ _
 unfold dj cv thv at CC
 unfold ch
 clear A ht hl C h1 h2 h4 hC hh hps hjl
 go_enter Tryz.func130,Tryz.ntmps130
 go_upto_region 1 with fail
 rw[←hV]
 clear hV
 obtain⟨n0,hn0⟩:∃ n0,n0=w.heap.size:=⟨_,rfl⟩
 rw[←hn0] at HV HS ⊢
 have Hn0:Hid (n0=w.heap.size):=hn0
 clear hn0
 obtain⟨c0,c1,c2,c3⟩:=aR HS.out
 go_upto_region 2 with fail
 rw[←hX]
 obtain⟨n1,hn1⟩:∃ n1,n1=V.heap.size:=⟨_,rfl⟩
 rw[←hn1] at HV ⊢
 clear hX hn1 s0 s1 s2 s3 s4 s5 s6 s7 s8 s9 s10 c0 c1 c2 c3
 obtain⟨c0,c1,c2,c3⟩:=aR HV.out.1
 obtain⟨s0,s1,s2,s3,s4,s5,s6,s7,s8,s9,s10⟩:=cV HV.out.2.2.1
 go_wp2_with fail
 refine CC.mono ?_
 rintro e2 w2 ⟨u,rfl,o2,g2⟩
 have HPs:Hid (bI w2 u ps):=o2.at
 obtain⟨a2,k2,rfl⟩:=o2.at.form
 obtain⟨Y,hY⟩:∃ Y,Y=w2.alloc (.cells (ccs h (.slice a2 ps.length k2)) 54):=⟨_,rfl⟩
 have HY:Hid (Y.heap[w2.heap.size]?=some (.cells (ccs h (.slice a2 ps.length k2)) 54 (0,0))∧bI Y (.slice a2 ps.length k2) ps∧X.grownBy Y none):=by
  have gr:w2.grownBy Y none:=by rw[hY];exact World.grownBy_alloc _ _ none
  exact⟨by rw[hY];exact ai _ _ _,HPs.out.keep gr,aa g2 gr⟩
 unfold ccs at hY
 clear CC o2 g2 HPs
 go_upto_region 3 with fail
 rw[←hY]
 obtain⟨n2,hn2⟩:∃ n2,n2=w2.heap.size:=⟨_,rfl⟩
 rw[←hn2] at HY ⊢
 clear hY hn2
 have c0:=HY.out.2.2.cell c0 (by simp)
 have s0:=HY.out.2.2.cell s0 (by simp)
 have s1:=HY.out.2.2.cell s1 (by simp)
 have s2:=HY.out.2.2.cell s2 (by simp)
 have s3:=HY.out.2.2.cell s3 (by simp)
 have s4:=HY.out.2.2.cell s4 (by simp)
 have s5:=HY.out.2.2.cell s5 (by simp)
 have s6:=HY.out.2.2.cell s6 (by simp)
 have s7:=HY.out.2.2.cell s7 (by simp)
 have s8:=HY.out.2.2.cell s8 (by simp)
 have s9:=HY.out.2.2.cell s9 (by simp)
 have s10:=HY.out.2.2.cell s10 (by simp)
 have CP:=HCs.out Y HY.out.2.2
 unfold thv at CP
 clear HCs
 go_wp2_with fail
 refine CP.mono ?_
 rintro e3 w3 ⟨v3,rfl,o3,g3⟩
 obtain⟨P,hP⟩:∃ P,P=plF ps 0 6:=⟨_,rfl⟩
 have HP:Hid (P=plF ps 0 6):=hP
 rw[←hP] at o3
 obtain⟨p3,k3,rfl⟩:=o3.form
 have H3:Hid (OwT w3 Y.heap.size (.slice p3 P.length k3) P∧bI w3 (.slice a2 ps.length k2) ps∧w3.heap[n2]?=some (.cells (ccs h (.slice a2 ps.length k2)) 54 (0,0))∧w.grownBy w3 none):=⟨o3,HY.out.2.1.keep g3,ae g3 HY.out.1 (by simp),aa (aa HV.out.2.1 HY.out.2.2) g3⟩
 clear CP o3 g3 hP HY HV c0 c1 c2 c3 s0 s1 s2 s3 s4 s5 s6 s7 s8 s9 s10
 obtain⟨B,hB⟩:∃ B,B=w3.heap.size:=⟨_,rfl⟩
 have HB:Hid (B=w3.heap.size):=hB
 clear hB
 obtain⟨M,hM⟩:∃ M,M=P.length:=⟨_,rfl⟩
 have HMl:Hid (M=P.length):=hM
 rw[←hM]
 clear hM
 go_wp2_with fail
 go_loopw [10,35] (fun v i wr=>∃ (k:Nat) (p:Option Addr) (c:Nat),k≤M∧i=.int .i64 (k:Int)∧v=.slice p k c∧Hid (bi wr B (.slice p k c) (swU ((j:Int)+1) ps k)∧w3.grownBy wr none)) (fun _ i _=>M - (intOf i).toNat)
 case atStart=>exact⟨0,none,0,Nat.zero_le _,rfl,rfl,ay.Own.nil _ _ _ _,aq _ _⟩
 case round =>
  obtain⟨k,p,c,hk',rfl,rfl,HK⟩:=hrel
  obtain⟨U,hU⟩:∃ U,U=wr:=⟨_,rfl⟩
  subst hU
  by_cases hi2:k<M
  ·have i1:(k:Int)<(M:Int):=Int.ofNat_lt.2 hi2
   have hk0:k<P.length:=by rw[←HMl.out];exact hi2
   have hM4:M≤4:=by rw[HMl.out,HP.out];exact vQ ps 6 H4.out
   have hwk:=aK (k:=k) (by omega)
   have HM:Hid (M - (intOf (.int .i64 ((k:Int)+1))).toNat<M - (intOf (.int .i64 (k:Int))).toNat):=bF hi2
   obtain⟨x,hx⟩:∃ x,P[k]?=some x:=⟨_,List.getElem?_eq_getElem hk0⟩
   obtain⟨q,e1,hq,-⟩:=lL ps 0 6 x (by rw[←HP.out];exact List.mem_of_getElem? hx)
   rw[Nat.zero_add] at e1
   subst e1
   obtain⟨gP,cP,eP,_,_,_,_,hcP⟩:=em H3.out.1 (by omega)
   injection eP with eP eP2 eP3
   clear eP2 eP3
   subst eP
   have y0:U.cell? ⟨gP,k,none⟩=some (.int .i64 (q:Int)):=HK.out.2.cell ((hcP k (by omega)).1.trans (by rw[D7 P k hk0];rw[List.getElem?_eq_getElem hk0] at hx;injection hx with hx;rw[List.getD_eq_getElem?_getD,List.getElem?_eq_getElem hk0];simp[hx])) (by simp)
   obtain⟨pp,hpp⟩:∃ pp,ps[q]?=some pp:=⟨_,List.getElem?_eq_getElem hq⟩
   obtain⟨gQ,oQ,cQ,eQ,RQ⟩:=H3.out.2.1.part (by omega)
   have eQ1:a2=some ⟨gQ,oQ,none⟩:=by injection eQ
   clear eQ
   subst eQ1
   obtain⟨d0,d1,d2,d3,d4,d5,d6,d7⟩:=(RQ q pp hpp).keep HK.out.2
   have q8:=HK.out.2.cell (ac H3.out.2.2.1 8) (by simp)
   simp only[ccs] at q8
   have q1:(q:Int)<(ps.length:Int):=Int.ofNat_lt.2 hq
   have q0:(0:Int)≤(q:Int):=by omega
   have HN:Hid (swU ((j:Int)+1) ps (k+1)=swU ((j:Int)+1) ps k++[⟨(j:Int)+1,(q:Int),pp⟩]):=by
    show _=_
    rw[zX (by rw[←HP.out];exact hx)]
    unfold mkS
    rw[Int.toNat_natCast,List.getD_eq_getElem?_getD,hpp]
    rfl
   obtain⟨e,he⟩:∃ e:Sd,e=⟨(j:Int)+1,(q:Int),pp⟩:=⟨_,rfl⟩
   have HO:Hid (U.ownsRow B 40 10 (.slice p k c) k (sdR.cs (swU ((j:Int)+1) ps k))):=by
    have:=HK.out.1
    unfold bi ay.Own at this
    rw[wM (by rw[←HP.out];omega)] at this
    exact this
   have HLn:Hid (k+1≤maxLen∧(k+1)*56≤140737488355328∧B≤(U.alloc (.cells (sdc e).toArray 40)).heap.size):=by
    have:=Ce rfl hi2 hM4
    exact⟨this.1,this.2,by rw[HB.out];exact(ak HK.out.2 _).size⟩
   have HSr:Hid (Src (U.alloc (.cells (sdc e).toArray 40)) (.slice (some ⟨U.heap.size,0,none⟩) 1 1) 1 10 (sdc e)):=qE U e
   have HKk:Hid (k+1≤M∧(swU ((j:Int)+1) ps k).length=k∧w3.grownBy U none):=⟨hi2,wM (by rw[←HP.out];omega),HK.out.2⟩
   rw[←he] at HN
   subst he
   clear hk' hi2 hk0 hM4 hx hq hcP hpp RQ HK
   unfold sdc at HLn HSr
   go_upto_region 9 with (at_builtin;refine cm (by rfl) (.tmp 39) (.tmp 48) 27 rfl B 40 i0 _ 10 56 Tryz.underlying27 hi hz0 hz1 hz2 rfl (by decide) _ k (sdR.cs (swU ((j:Int)+1) ps k)) rfl (World.ownsRow.alloc HO.out _) _ 1 (sdc ⟨(j:Int)+1,(q:Int),pp⟩) rfl HSr.out (fL _) HLn.out.1 HLn.out.2.1 HLn.out.2.2 ?_;intro v9 w9 o9 g9 _;obtain⟨pv,kv,rfl,-⟩:=cH o9;have HO9:Hid _:=o9;have HG9:Hid _:=g9;clear o9 g9)
   have HZ:Hid (bi w9 B (.slice pv (k+1) kv) (swU ((j:Int)+1) ps (k+1))∧w3.grownBy w9 none):=by
    refine⟨?_,am (aa HKk.out.2.2 (World.grownBy_alloc U _ none)) HG9.out (fun y e=>by rw[←HB.out];exact(World.ownsRow.lt HO.out y e).1)⟩
    rw[HN.out]
    exact ay.more HO9.out HKk.out.2.1.symm
   clear HO9 HG9 HO HSr HLn HN
   go_wp2_with fail
   go_roundw
   case rel=>exact⟨k+1,pv,kv,HKk.out.1,by first | rfl | (rw[hwk];rfl) | go_num,rfl,HZ.out⟩
   case measure=>first | exact HM.out | (rw[hwk];exact HM.out)
  ·obtain rfl:k=M:=Nat.le_antisymm hk' (Nat.le_of_not_lt hi2)
   have i1:¬(k:Int)<(k:Int):=Int.lt_irrefl _
   have HF:Hid (bi U w.heap.size (.slice p k c) (bQ ((j:Int)+1) ps)∧w.grownBy U none):=by
    have:=HK.out.1
    rw[show swU ((j:Int)+1) ps k=bQ ((j:Int)+1) ps from by rw[HMl.out,HP.out];exact Dn _ _] at this
    exact⟨aY this (by rw[HB.out];exact H3.out.2.2.2.size),aa H3.out.2.2.2 HK.out.2⟩
   clear hk' hi2 HK
   go_wp2_with fail
   go_ret
   exact⟨_,rfl,HF.out⟩
open Go.Shelf
theorem Tab.ab {n:Int} {cd:Int→Hd×List Pt} {ts:List Th} {F:List Fe} {R:List Rw} (h:Tab n cd ts F R) {s:Sd} {ro i:Nat} (hr:ro<R.length) (hs:(R.getD ro Rw.none).nu=s.th) (hi:i<R.length):∃ (j z:Nat) (t:Th) (f g:Fe) (own:Bool),ts[j]?=some t∧t.place=4∧F[j]?=some f∧F[z]?=some g∧s.th=(z:Int)+1∧(((j:Int)+1) == s.th)=own∧(R.getD i Rw.none).nu=(j:Int)+1∧da s.wh own (cd t.card).1.kd f g.ho=fp R (au R F) ⟨s,ro⟩ i:=by
 obtain⟨j,t,ht,h4,e⟩:=h.row (show R.getD i Rw.none∈R by rw[aw hi];exact List.getElem_mem _)
 obtain⟨z,u,hu,-,e2⟩:=h.row (show R.getD ro Rw.none∈R by rw[aw hr];exact List.getElem_mem _)
 have hj:j<F.length:=by rw[←h.len];exact(List.getElem?_eq_some_iff.1 ht).1
 have hz:z<F.length:=by rw[←h.len];exact(List.getElem?_eq_some_iff.1 hu).1
 have nj:(R.getD i Rw.none).nu=(j:Int)+1:=by rw[e]
 have nz:(R.getD ro Rw.none).nu=(z:Int)+1:=by rw[e2]
 have hown:(((j:Int)+1) == s.th)=decide (i=ro):=by
  rw[←hs,←nj]
  by_cases q:i=ro
  ·subst q;rw[decide_eq_true rfl];exact beq_self_eq_true _
  ·rw[decide_eq_false q]
   exact Bool.eq_false_iff.2 fun y=>q (kI h.nod hi hr (by simpa using y))
 refine⟨j,z,t,F[j],F[z],decide (i=ro),ht,h4,List.getElem?_eq_getElem hj,List.getElem?_eq_getElem hz,by rw[←hs,nz],hown,nj,?_⟩
 unfold fp
 have p1:(au R F).getD i Fe.none=F[j]:=by
  unfold au
  rw[fK _ _ _ Rw.none _ hi,nj,toN,aw hj]
 have p2:(au R F).getD ro Fe.none=F[z]:=by
  unfold au
  rw[fK _ _ _ Rw.none _ hr,nz,toN,aw hz]
 rw[p1,p2,show (R.getD i Rw.none).h.kd=(cd t.card).1.kd from by rw[e]]
theorem rJ {R:List Rw} {F:List Fe} {e:Se} {i:Nat} (hi:i<R.length):(bg R F e).getD i false=fp R F e i:=by
 unfold bg ku
 rw[List.getD_eq_getElem?_getD,List.getElem?_map,List.getElem?_range hi]
 rfl
def abK (R:List Rw) (F:List Fe) (e:Se) (k:Nat):List Int:=mx R (bg R F e) k
theorem Do {R:List Rw} {F:List Fe} {e:Se} {i:Nat} {x:Int} (hi:i<R.length) (h:fp R F e i=true) (hx:(R.getD i Rw.none).nu=x):abK R F e (i+1)=abK R F e i++[x]:=by
 unfold abK
 rw[Au (by rw[rJ hi,h]),hx]
theorem Ep {R:List Rw} {F:List Fe} {e:Se} {i:Nat} (hi:i<R.length) (h:fp R F e i=false):abK R F e (i+1)=abK R F e i:=by
 unfold abK
 rw[Dc (by rw[rJ hi,h])]
theorem DJ (R:List Rw) (F:List Fe) (e:Se) (k:Nat):(abK R F e k).length≤k:=mC _ _ _
theorem j7 {w:World} {base m c:Nat} {p:Option Addr} {l:List Int} (h:aU w base (.slice p m c) l) {j:Nat} (hj:j<l.length):∃ g,p=some ⟨g,0,none⟩∧w.cell? ⟨g,j,none⟩=some (.int .i64 (l.getD j 0)):=by
 obtain⟨g,c',e,_,_,_,_,hc⟩:=em h (by omega)
 injection e with e _ _
 refine⟨g,e,(hc j (by omega)).1.trans ?_⟩
 unfold cD
 rw[List.getElem?_map,List.getElem?_eq_getElem hj,Option.map_some,aw hj]
theorem jn (ok:Nat→Prop) (r:Nat) (v:Value) (p:Pl) (gs:List Ent) (vt vf:Value) (ts:List Th) (F:List Fe) (R:List Rw) (s:Sd) (ro:Nat) (w:World) (B:RD ok w r v p gs) (A:thR.At w vt ts) (AF:feR.At w vf F) (hT:Tab (gs.length:Int) (atC p gs) ts F R) (hr:ro<R.length) (hs:(R.getD ro Rw.none).nu=s.th) (hl:ts.length≤2048):Calls Tryz.prog 172 #[.pointer (some ⟨r,0,none⟩),vt,vf,sdv s] w fun e w'=>∃ v,e=.returned v∧aU w' w.heap.size v (eB R (bg R (au R F) ⟨s,ro⟩))∧w.grownBy w' none:=by
 obtain⟨i0,hi,hz0,hz1,hz2⟩:=info_parts Tryz.linfo3
 obtain⟨pt,ct,rfl⟩:=A.form
 obtain⟨pf,cf,rfl⟩:=AF.form
 obtain⟨V,hV⟩:∃ V,V=w.alloc (.cells #[.int .i64 s.th,.int .i64 s.pl,.int .u8 s.wh.wn,.int .u8 s.wh.vb,.int .u8 s.wh.wm,.int .i64 s.wh.ct,.int .u8 s.wh.su,.int .u8 s.wh.tr,.int .u8 s.wh.mr,.string s.wh.nm] 40):=⟨_,rfl⟩
 have HV:Hid (SdB V w.heap.size s∧w.grownBy V none∧RD ok V r v p gs∧thR.At V (.slice pt ts.length ct) ts∧feR.At V (.slice pf F.length cf) F):=by
  have gr:w.grownBy V none:=by rw[hV];exact World.grownBy_alloc _ _ none
  exact⟨by rw[hV];exact ai _ _ _,gr,B.keep gr,A.keep gr,AF.keep gr⟩
 have HT:Hid (Tab (gs.length:Int) (atC p gs) ts F R∧ro<R.length∧(R.getD ro Rw.none).nu=s.th∧ts.length≤2048):=⟨hT,hr,hs,hl⟩
 have CO:=lP _ _ _ ts F R V HV.out.2.2.2.1 hT hl
 unfold sdv
 clear B A AF hT hr hs hl
 go_enter Tryz.func172,Tryz.ntmps172
 go_upto_region 1 with fail
 rw[←hV]
 obtain⟨n0,hn0⟩:∃ n0,n0=w.heap.size:=⟨_,rfl⟩
 have Hn0:Hid (n0=w.heap.size):=hn0
 rw[←hn0] at HV ⊢
 clear hV hn0
 go_wp2_with fail
 refine CO.mono ?_
 rintro e1 w1 ⟨v1,rfl,o1,g1⟩
 obtain⟨pl,cl,ev⟩:=aU.form o1
 rw[List.length_map] at ev
 subst ev
 have H1:Hid (aU w1 V.heap.size (.slice pl R.length cl) (R.map Rw.nu)∧w.grownBy w1 none∧SdB w1 n0 s∧RD ok w1 r v p gs∧thR.At w1 (.slice pt ts.length ct) ts∧feR.At w1 (.slice pf F.length cf) F):=⟨o1,aa HV.out.2.1 g1,ae g1 HV.out.1 (by simp),HV.out.2.2.1.keep g1,HV.out.2.2.2.1.keep g1,HV.out.2.2.2.2.keep g1⟩
 clear CO o1 g1 HV
 go_wp2_with fail
 go_loopw [9,11] (fun v y wr=>∃ (i m:Nat) (q:Option Addr) (c:Nat),i≤R.length∧y=.int .i64 (i:Int)∧v=.slice q m c∧Hid (m=(abK R (au R F) ⟨s,ro⟩ i).length∧aU wr w1.heap.size (.slice q m c) (abK R (au R F) ⟨s,ro⟩ i)∧w1.grownBy wr none)) (fun _ y _=>R.length - (intOf y).toNat)
 case atStart=>exact⟨0,0,none,0,Nat.zero_le _,rfl,rfl,rfl,⟨rfl,Or.inl ⟨rfl,rfl⟩⟩,aq _ _⟩
 case round =>
  obtain⟨i,m,q,c,hi',rfl,rfl,HQ⟩:=hrel
  obtain⟨U,hU⟩:∃ U,U=wr:=⟨_,rfl⟩
  subst hU
  by_cases hi2:i<R.length
  ·have i1:(i:Int)<(R.length:Int):=Int.ofNat_lt.2 hi2
   have hwk:=aK (k:=i) (Nat.le_trans (Nat.le_of_lt hi2) (Nat.le_trans HT.out.1.few (by decide)))
   have HM:Hid (R.length - (intOf (.int .i64 ((i:Int)+1))).toNat<R.length - (intOf (.int .i64 (i:Int))).toNat):=bF hi2
   obtain⟨j,z,t,f,g,own,ht,h4,hf,hg,hz,ho,hn,hm⟩:=HT.out.1.ab HT.out.2.1 HT.out.2.2.1 hi2
   have HU:Hid (aU U V.heap.size (.slice pl R.length cl) (R.map Rw.nu)∧w.grownBy U none∧SdB U n0 s∧RD ok U r v p gs∧thR.At U (.slice pt ts.length ct) ts∧feR.At U (.slice pf F.length cf) F):=⟨aA H1.out.1 HQ.out.2.2,aa H1.out.2.1 HQ.out.2.2,ae HQ.out.2.2 H1.out.2.2.1 (by simp),H1.out.2.2.2.1.keep HQ.out.2.2,H1.out.2.2.2.2.1.keep HQ.out.2.2,H1.out.2.2.2.2.2.keep HQ.out.2.2⟩
   have hfl:ts.length≤2048∧F.length≤2048:=⟨HT.out.2.2.2,by rw[←HT.out.1.len];exact HT.out.2.2.2⟩
   have CM:=uh ok r v p gs _ _ ts F s j z t f g own U.drew (HU.out.2.2.2.1.keep (ag _)) (HU.out.2.2.2.2.1.keep (ag _)) (HU.out.2.2.2.2.2.keep (ag _)) ht h4 hf hg hz ho hfl
   rw[hm] at CM
   unfold sdv at CM
   obtain⟨gl,ep,cl0⟩:=j7 HU.out.1 (j:=i) (by rw[List.length_map];exact hi2)
   subst ep
   rw[fK _ _ _ Rw.none _ hi2,hn] at cl0
   obtain⟨s0,s1,s2,s3,s4,s5,s6,s7,s8,s9⟩:=aT HU.out.2.2.1
   have Hi:Hid (i<R.length∧(R.getD i Rw.none).nu=(j:Int)+1):=⟨hi2,hn⟩
   obtain⟨bb,hbb⟩:∃ bb,bb=fp R (au R F) ⟨s,ro⟩ i:=⟨_,rfl⟩
   have Hbb:Hid (bb=fp R (au R F) ⟨s,ro⟩ i):=hbb
   rw[←hbb] at CM
   clear hi' hi2 ht h4 hf hg hz ho hn hm hfl hbb
   go_upto_region 6 with fail
   refine wp_region_held_drew (S:=fun w'=>U.grownBy w' none) (by kernel_rfl) (ag _) (fun hHeld=>?_)
   refine QZ 0 rfl ?_
   go_frame
   refine QZ 1 rfl ?_
   go_frame
   refine QZ 2 rfl ?_
   go_frame
   refine QT 3 rfl (by intro w0 hSw;have s0:=hSw.cell s0 (by simp);have s1:=hSw.cell s1 (by simp);have s2:=hSw.cell s2 (by simp);have s3:=hSw.cell s3 (by simp);have s4:=hSw.cell s4 (by simp);have s5:=hSw.cell s5 (by simp);have s6:=hSw.cell s6 (by simp);have s7:=hSw.cell s7 (by simp);have s8:=hSw.cell s8 (by simp);have s9:=hSw.cell s9 (by simp);go_simp;try with_reducible rfl) ?_
   go_frame
   refine QZ 4 rfl ?_
   go_frame
   refine QZ 5 rfl ?_
   go_frame
   refine QZ 6 rfl ?_
   go_frame
   refine QT 7 rfl (by intro w0 hSw;have cl0:=hSw.cell cl0 (by simp);go_simp;try with_reducible rfl) ?_
   go_frame
   refine QR 8 rfl (fun K hK=>?_)
   go_simp
   go_at_call 241
   refine(CM).mono ?_
   rintro e2 w2 ⟨rfl,g2⟩
   have HG2:Hid (U.grownBy w2 none):=aa (ag _) g2
   clear CM g2
   refine hK.out _ _ (HG2.out) (fun hHeld2=>?_)
   clear hK K
   (try go_frame)
   refine QD ?_
   have H2:Hid (aU w2 V.heap.size (.slice (some ⟨gl,0,none⟩) R.length cl) (R.map Rw.nu)∧aU w2 w1.heap.size (.slice q m c) (abK R (au R F) ⟨s,ro⟩ i)∧w1.grownBy w2 none):=⟨aA HU.out.1 HG2.out,aA HQ.out.2.1 HG2.out,aa HQ.out.2.2 HG2.out⟩
   have cl1:=HG2.out.cell cl0 (by simp)
   clear s0 s1 s2 s3 s4 s5 s6 s7 s8 s9 hHeld hHeld2 cl0 HU HG2
   cases bb with
   | true =>
    have HA:Hid (abK R (au R F) ⟨s,ro⟩ (i+1)=abK R (au R F) ⟨s,ro⟩ i++[(j:Int)+1]):=Do Hi.out.1 Hbb.out.symm Hi.out.2
    have HO:Hid (w2.ownsRow w1.heap.size 3 1 (.slice q m c) m (cD (abK R (au R F) ⟨s,ro⟩ i))):=by
     have h9:=H2.out.2.1
     unfold aU at h9
     rw[←HQ.out.1] at h9
     exact h9
    have HLn:Hid (m+1≤maxLen∧(m+1)*8≤140737488355328∧w1.heap.size≤(w2.alloc (.cells #[.int .i64 ((j:Int)+1)] 3)).heap.size):=by
     have h8:=DJ R (au R F) ⟨s,ro⟩ i
     have h7:=HQ.out.1
     have h6:=HT.out.1.few
     have h5:=Hi.out.1
     exact⟨by unfold maxLen;omega,by omega,Nat.le_trans H2.out.2.2.size (World.grownBy_alloc w2 (.cells #[.int .i64 ((j:Int)+1)] 3) none).size⟩
    have HSr:Hid (Src (w2.alloc (.cells #[.int .i64 ((j:Int)+1)] 3)) (.slice (some ⟨w2.heap.size,0,none⟩) 1 1) 1 1 (cD [(j:Int)+1])):=⟨_,_,rfl,rfl,fun _=>⟨_,rfl,lE w2 _⟩⟩
    go_wp2_with (at_builtin;refine cm (by rfl) (.tmp 29) (.tmp 34) 139 rfl w1.heap.size 3 i0 _ 1 8 Tryz.underlying139 hi hz0 hz1 hz2 rfl (by decide) _ m (cD (abK R (au R F) ⟨s,ro⟩ i)) rfl (World.ownsRow.alloc HO.out _) _ 1 (cD [(j:Int)+1]) rfl HSr.out (ky _) HLn.out.1 HLn.out.2.1 HLn.out.2.2 ?_;intro v9 w9 o9 g9 _;obtain⟨pv,kv,rfl,-⟩:=cH o9;have HO9:Hid _:=o9;have HG9:Hid _:=g9;clear o9 g9)
    have HZ:Hid (m+1=(abK R (au R F) ⟨s,ro⟩ (i+1)).length∧aU w9 w1.heap.size (.slice pv (m+1) kv) (abK R (au R F) ⟨s,ro⟩ (i+1))∧w1.grownBy w9 none):=by
     refine⟨by rw[HA.out,List.length_append,←HQ.out.1];rfl,?_,am (aa H2.out.2.2 (World.grownBy_alloc w2 (.cells #[.int .i64 ((j:Int)+1)] 3) none)) HG9.out (fun y e=>(World.ownsRow.lt (World.ownsRow.alloc HO.out (.cells #[.int .i64 ((j:Int)+1)] 3)) y e).1)⟩
     rw[HA.out]
     exact kF HO9.out HQ.out.1
    go_roundw
    case rel=>exact⟨i+1,m+1,pv,kv,Hi.out.1,by first | rfl | (rw[hwk];rfl) | go_num,rfl,HZ.out⟩
    case measure=>first | exact HM.out | (rw[hwk];exact HM.out)
   | false =>
    have HA:Hid (abK R (au R F) ⟨s,ro⟩ (i+1)=abK R (au R F) ⟨s,ro⟩ i):=Ep Hi.out.1 Hbb.out.symm
    go_wp2_with fail
    go_roundw
    case rel=>exact⟨i+1,m,q,c,Hi.out.1,by first | rfl | (rw[hwk];rfl) | go_num,rfl,by rw[HA.out];exact HQ.out.1,by rw[HA.out];exact H2.out.2.1,H2.out.2.2⟩
    case measure=>first | exact HM.out | (rw[hwk];exact HM.out)
  ·obtain rfl:i=R.length:=Nat.le_antisymm hi' (Nat.le_of_not_lt hi2)
   have i1:¬(R.length:Int)<(R.length:Int):=Int.lt_irrefl _
   have HF:Hid (aU U w.heap.size (.slice q m c) (eB R (bg R (au R F) ⟨s,ro⟩))∧w.grownBy U none):=⟨aY HQ.out.2.1 H1.out.2.1.size,aa H1.out.2.1 HQ.out.2.2⟩
   clear hi' hi2 HQ
   go_wp2_with fail
   go_ret
   exact⟨_,rfl,HF.out.1,HF.out.2⟩
theorem DT {r n:Int} {cd:Int→Hd×List Pt} {ts:List Th} {F:List Fe} (h:r≠0):lkE r n cd ts F []=r:=uQ h
theorem Ev {n:Int} {cd:Int→Hd×List Pt} {ts:List Th} {F:List Fe}:lkE 0 n cd ts F []=if (bd n cd ts F).isSome then 0 else 2:=by
 cases h:bd n cd ts F with
 | none=>rw[oR h];rfl
 | some R=>rw[jB h];rfl
theorem Eo {p:Pl} {gs:List Ent} {ts:List Th} {F:List Fe} (h:ts.length≤2048):lkE (bT p ts.length) (gs.length:Int) (atC p gs) ts F []=if eI p gs ts F then 0 else 2:=by
 unfold bT eI
 rw[if_neg (by omega),decide_eq_true h,Bool.true_and]
 cases p.shut with
 | true=>rw[if_pos rfl,Ev,Bool.true_and]
 | false=>rw[if_neg (by decide),DT (by decide),Bool.false_and];rfl
theorem uF (ok:Nat→Prop) (r:Nat) (v:Value) (p:Pl) (gs:List Ent) (vt vf:Value) (ts:List Th) (F:List Fe) (w:World) (B:RD ok w r v p gs) (A:thR.At w vt ts) (AF:feR.At w vf F) (hr:TrI F):Calls Tryz.prog 94 #[.pointer (some ⟨r,0,none⟩),vt,vf] w fun e w'=>e=.returned (.int .i64 (lkE (bT p ts.length) (gs.length:Int) (atC p gs) ts F []))∧w.grownBy w' none:=by
 have C1:=bj r v p w B.rj
 have C2:=ny ok r v p gs vt vf ts F w B A AF hr
 obtain⟨pt,ct,rfl⟩:=A.form
 obtain⟨pf,cf,rfl⟩:=AF.form
 clear B A AF hr
 go_enter Tryz.func94,Tryz.ntmps94
 go_wp2_with fail
 refine C1.mono ?_
 rintro e1 w1 ⟨rfl,hw1⟩
 rw[hw1]
 clear hw1 w1 C1
 by_cases h2:(2048:Int)<(ts.length:Int)
 ·have HE:Hid (lkE (bT p ts.length) (gs.length:Int) (atC p gs) ts F []=3):=by
   show _=_
   unfold bT
   rw[if_pos (by omega),DT (by decide)]
  have d2:decide ((2048:Int)<(ts.length:Int))=true:=decide_eq_true h2
  clear h2
  go_wp2_with fail
  go_ret
  exact⟨by rw[HE.out] <;> rfl,aq _ _⟩
 ·have d2:decide ((2048:Int)<(ts.length:Int))=false:=decide_eq_false h2
  obtain⟨q,hq⟩:∃ q,q=eI p gs ts F:=⟨_,rfl⟩
  have HE:Hid (lkE (bT p ts.length) (gs.length:Int) (atC p gs) ts F []=if q then 0 else 2):=by
   show _=_
   rw[Eo (by omega),←hq]
  rw[←hq] at C2
  clear hq h2
  go_wp2_with fail
  refine C2.mono ?_
  rintro e2 w2 ⟨rfl,g2⟩
  have HG:Hid (w.grownBy w2 none):=g2
  clear C2 g2
  cases q with
  | true =>
   go_wp2_with fail
   go_ret
   exact⟨by rw[HE.out] <;> rfl,HG.out⟩
  | false =>
   go_wp2_with fail
   go_ret
   exact⟨by rw[HE.out] <;> rfl,HG.out⟩
end Go.Proofs.YthfjgpjcepmnmaaGreat
