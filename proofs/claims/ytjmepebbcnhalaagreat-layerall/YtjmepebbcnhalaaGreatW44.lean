import Derived.Test.YtjmepebbcnhalaaGreatW0
import Derived.Test.YtjmepebbcnhalaaGreatW43
namespace Go.Proofs.YtjmepebbcnhalaaGreat
set_option maxRecDepth 100000
set_option maxHeartbeats 4000000
open Go.RowKit Go.Shelf
theorem Tab.effAt {n:Int} {cd:Int→Hd×List Pt} {ts:List Th} {F:List Fe} {R:List Rw} (h:Tab n cd ts F R) {i:Nat} (hi:i<R.length) (k:Int):∃ (j:Nat) (t:Th) (f:Fe),ts[j]?=some t∧F[j]?=some f∧(R.getD i Rw.none).nu=(j:Int)+1∧iG R (aq R F) k i=if jZ f.tr 6 then [] else eN k ((j:Int)+1) i (cd t.card).2 (cd t.card).2.length:=by
 obtain⟨j,t,ht,h4,e⟩:=h.row (show R.getD i Rw.none∈R by rw[aC hi];exact List.getElem_mem _)
 have hj:j<F.length:=by rw[←h.len];exact(List.getElem?_eq_some_iff.1 ht).1
 have nj:(R.getD i Rw.none).nu=(j:Int)+1:=by rw[e]
 refine⟨j,t,F[j],ht,List.getElem?_eq_getElem hj,nj,?_⟩
 have p1:(aq R F).getD i Fe.none=F[j]:=by
  unfold aq
  rw[gP _ _ _ Rw.none _ hi,nj,toN,aC hj]
 unfold iG
 rw[p1,nj,show (R.getD i Rw.none).ps=(cd t.card).2 from by rw[e]]
def efS (R:List Rw) (F:List Fe) (k:Int) (i:Nat):List Sd:=(hJ R F k i).map Se.s
def efI (D:List Sd) (k nu:Int) (ro:Nat) (ps:List Pt) (m:Nat):List Sd:=D++(eN k nu ro ps m).map Se.s
theorem rM (D:List Sd) (k nu:Int) (ro:Nat) (ps:List Pt):efI D k nu ro ps 0=D:=by
 unfold efI eN
 simp
theorem Bw {D:List Sd} {k nu:Int} {ro:Nat} {ps:List Pt} {m:Nat} {q:Pt} (hq:ps.getD m Pt.none=q) (h:q.wn=5) (h2:lay q.vb=k):efI D k nu ro ps (m+1)=efI D k nu ro ps m++[⟨nu,(m:Int),q⟩]:=by
 unfold efI
 rw[kC,hq,if_pos ⟨h,h2⟩,List.map_append,List.append_assoc]
 rfl
theorem yA {D:List Sd} {k nu:Int} {ro:Nat} {ps:List Pt} {m:Nat} {q:Pt} (hq:ps.getD m Pt.none=q) (h:¬(q.wn=5∧lay q.vb=k)):efI D k nu ro ps (m+1)=efI D k nu ro ps m:=by
 unfold efI
 rw[kC,hq,if_neg h,List.append_nil]
theorem AI (D:List Sd) (k nu:Int) (ro:Nat) (ps:List Pt) (m:Nat):(efI D k nu ro ps m).length≤D.length+m:=by
 unfold efI
 rw[List.length_append,List.length_map]
 exact Nat.add_le_add_left (mZ _ _ _ _ _) _
theorem AK {D E:List Sd} {k nu:Int} {ro m:Nat} {ps:List Pt} (h:E=efI D k nu ro ps m) (hD:D.length≤64) (h4:ps.length≤4) (hm:m<ps.length):E.length≤68:=by
 have a:=AI D k nu ro ps m
 rw[←h] at a
 omega
theorem Ae {n m:Nat} (h:m=n) (hn:n≤68):m+1≤maxLen∧(m+1)*56≤140737488355328:=⟨by unfold maxLen;omega,by omega⟩
theorem Bs {D:List Sd} {i n:Nat} (h:D.length≤i*4) (hi:i<n) (hn:n≤16):D.length≤64:=by omega
theorem zx {R:List Rw} {F:List Fe} {k:Int} {i:Nat} (h:iG R F k i=[]):efS R F k (i+1)=efS R F k i:=by
 unfold efS
 rw[jg,h,List.append_nil]
theorem AH {R:List Rw} {F:List Fe} {k nu:Int} {i:Nat} {ps:List Pt} (h:iG R F k i=eN k nu i ps ps.length):efS R F k (i+1)=efI (efS R F k i) k nu i ps ps.length:=by
 unfold efS efI
 rw[jg,h,List.map_append]
theorem AU {P:Program} {w:World} {o:Oper} {a:Act} {K:Act→World→Prop} {Q:Exit→Act→World→Prop} (s x:Operand) (t:TypeId)
  (ho:o.op=.call { callee:=.builtin .append,args:=#[s,x],argTypes:=#[t,t] })
  (base:Nat) (e:TypeId) (i:TypeInfo) (z:Value) (size bytes:Nat) (ht:P.underlying t=some (.slice e)) (hi:P.info? e=some i) (hz:i.zero=some z)
  (hsize:i.size=size) (hby:i.bytes=bytes) (hzs:z.cells.size=size) (hsz:0<size)
  (v:Value) (n:Nat) (xs:List Value) (hs:a.eval s=v) (hown:w.ownsRow base e size v n xs)
  (vx:Value) (m:Nat) (ys:List Value) (hx:a.eval x=vx) (hsrc:Src w vx m size ys) (h1:∀ u∈ys,u.oneCell'=true)
  (h63:n+m≤maxLen) (hbytes:(n+m)*bytes≤140737488355328) (hbase:base≤w.heap.size)
  (h:∀ v' w',w'.ownsRow base e size v' (n+m) (xs++ys)→w.grownBy w' v.ownBlock→(v'.ownBlock=v.ownBlock∨v'.ownBlock=some w.heap.size)→K (a.put o.dst v') w'):Oper.wp P o a w K Q:=by
 obtain⟨p,c,e1,hl,hc⟩:=hsrc
 subst e1
 by_cases h0:m=0
 ·subst h0
  have hy:ys=[]:=List.length_eq_zero_iff.1 (by omega)
  subst hy
  cases p with
  | none =>
   have hx2:a.eval x=.slice none 0 c:=hx
   have hrun:(Builtin.append_ #[t,t] o.type #[v,.slice none 0 c]).run P w=.ok v w:=run_append_owned_none (P:=P) (w:=w) base t o.type e i size ht hi v n xs hown
   unfold Oper.wp
   simp[execOp,ho,resolve,invoke,builtin,hs,hx2,hrun,Result.andThen]
   exact h v w (by rw[List.append_nil];exact hown) (ay _ _) (Or.inl rfl)
  | some ad =>
   exact fl s x t ho base e i z size bytes ht hi hz hsize hby hzs hsz v n xs hs hown ad 0 c [] hx (by simp) (fun j u hu=>by simp at hu) h1 h63 hbytes hbase h
 ·obtain⟨ad,e2,hcell⟩:=hc (by omega)
  subst e2
  exact fl s x t ho base e i z size bytes ht hi hz hsize hby hzs hsz v n xs hs hown ad m c ys hx hl hcell h1 h63 hbytes hbase h
theorem yE (Z:World) (e:Sd):Src (Z.alloc (.cells (sdc e).toArray 64)) (.slice (some ⟨Z.heap.size,0,none⟩) 1 1) 1 10 (sdc e):=ij (cs:=(sdc e).toArray) (ak Z _ _) rfl 1
theorem qo (ok:Nat→Prop) (r:Nat) (v:Value) (p:Pl) (gs:List Ent) (vt vf:Value) (ts:List Th) (F:List Fe) (R:List Rw) (kk:Int) (w:World) (B:RD ok w r v p gs) (A:thR.At w vt ts) (AF:feR.At w vf F) (hT:Tab (gs.length:Int) (atC p gs) ts F R) (hl:ts.length≤2048):Calls Tryz.prog 68 #[.pointer (some ⟨r,0,none⟩),vt,vf,.int .i64 kk] w fun e w'=>∃ v,e=.returned v∧dR w' w.heap.size v ((cU R (aq R F) kk).map Se.s)∧w.grownBy w' none:=by
 obtain⟨i0,hi,hz0,hz1,hz2⟩:=info_parts Tryz.linfoD
 obtain⟨pt,ct,rfl⟩:=A.form
 obtain⟨pf,cf,rfl⟩:=AF.form
 have HV:Hid (RD ok w r v p gs∧thR.At w (.slice pt ts.length ct) ts∧feR.At w (.slice pf F.length cf) F):=⟨B,A,AF⟩
 have H4:Hid (∀ c,(atC p gs c).2.length≤4):=B.four
 have HT:Hid (Tab (gs.length:Int) (atC p gs) ts F R∧ts.length≤2048∧F.length≤2048):=⟨hT,hl,by rw[←hT.len];exact hl⟩
 have CO:=m9 _ _ _ ts F R w A hT hl
 have HEl:Hid (∀ i,(efS R (aq R F) kk i).length≤i*4):=fun i=>by
  unfold efS
  rw[List.length_map]
  exact j3 (fun x=>hT.ps4 B.four x) i
 clear B A AF hT hl
 go_enter Tryz.func68,Tryz.ntmps68
 go_wp2_with fail
 refine CO.mono ?_
 rintro e1 w1 ⟨v1,rfl,o1,g1⟩
 obtain⟨pl,cl,ev⟩:=aQ.form o1
 rw[List.length_map] at ev
 subst ev
 have H1:Hid (aQ w1 w.heap.size (.slice pl R.length cl) (R.map Rw.nu)∧w.grownBy w1 none):=⟨o1,g1⟩
 clear CO o1 g1
 go_wp2_with fail
 go_loopw [9,11,12,13,14] (fun v y _ _ _ wr=>∃ (i m:Nat) (q:Option Addr) (c:Nat),i≤R.length∧y=.int .i64 (i:Int)∧v=.slice q m c∧Hid (m=(efS R (aq R F) kk i).length∧dR wr w1.heap.size (.slice q m c) (efS R (aq R F) kk i)∧w1.grownBy wr none)) (fun _ y _ _ _ _=>R.length - (intOf y).toNat)
 case atStart=>exact⟨0,0,none,0,Nat.zero_le _,rfl,rfl,rfl,aB.Own.nil _ _ _ _,ay _ _⟩
 case round =>
  obtain⟨i,m0,q0,c0,hi',rfl,rfl,HQ⟩:=hrel
  obtain⟨U,hU⟩:∃ U,U=wr:=⟨_,rfl⟩
  subst hU
  by_cases hi2:i<R.length
  ·have i1:(i:Int)<(R.length:Int):=Int.ofNat_lt.2 hi2
   have hwk:=aW (k:=i) (Nat.le_trans (Nat.le_of_lt hi2) (Nat.le_trans HT.out.1.few (by decide)))
   have HM:Hid (R.length - (intOf (.int .i64 ((i:Int)+1))).toNat<R.length - (intOf (.int .i64 (i:Int))).toNat):=bQ hi2
   obtain⟨j,t,f,ht,hf,hn,hE⟩:=HT.out.1.effAt hi2 kk
   have HU:Hid (aQ U w.heap.size (.slice pl R.length cl) (R.map Rw.nu)∧w.grownBy U none∧RD ok U r v p gs∧thR.At U (.slice pt ts.length ct) ts∧feR.At U (.slice pf F.length cf) F):=by
    have g:=aa H1.out.2 HQ.out.2.2
    exact⟨ar H1.out.1 HQ.out.2.2,g,HV.out.1.keep g,HV.out.2.1.keep g,HV.out.2.2.keep g⟩
   obtain⟨gl,ep,cl0⟩:=ja HU.out.1 (j:=i) (by rw[List.length_map];exact hi2)
   subst ep
   rw[gP _ _ _ Rw.none _ hi2,hn] at cl0
   have hjt:j<ts.length:=(List.getElem?_eq_some_iff.1 ht).1
   have hjf:j<F.length:=(List.getElem?_eq_some_iff.1 hf).1
   obtain⟨wj,wj2,j1⟩:=wrS hjt HT.out.2.1
   have j2:(j:Int)<(F.length:Int):=Int.ofNat_lt.2 hjf
   obtain⟨gT,oT,cT,eT,-⟩:=dw HU.out.2.2.2.1 hjt
   injection eT with eT eT2 eT3
   clear eT2 eT3
   subst eT
   obtain⟨gF,oF,cF,eF,-⟩:=eB HU.out.2.2.2.2 hjf
   injection eF with eF eF2 eF3
   clear eF2 eF3
   subst eF
   obtain⟨t0,-⟩:=dh (j9 HU.out.2.2.2.1 ht)
   obtain⟨-,-,f2,-⟩:=bJ (jM HU.out.2.2.2.2 hf)
   have Hnu:Hid ((R.getD i Rw.none).nu=(j:Int)+1):=hn
   have Hi:Hid (i<R.length∧iG R (aq R F) kk i=if jZ f.tr 6 then [] else eN kk ((j:Int)+1) i (atC p gs t.card).2 (atC p gs t.card).2.length):=⟨hi2,hE⟩
   obtain⟨mb,hmb⟩:∃ mb,mb=jZ f.tr 6:=⟨_,rfl⟩
   have Hmb:Hid (mb=jZ f.tr 6):=hmb
   have CH:∀ W,Calls Tryz.prog 109 #[.int .u16 f.tr,.int .u8 6] W fun e w'=>e=.returned (.bool mb)∧w'=W:=fun W=>by rw[hmb];exact nT f.tr 6 W
   clear hi' hi2 ht hf hn hE hjt hjf hmb
   go_upto_region 6 with fail
   go_wp2_with fail
   refine(CH U).mono ?_
   rintro e2 w2 ⟨rfl,h2⟩
   obtain rfl:U=w2:=h2.symm
   clear CH f2
   cases mb with
   | true =>
    have HN:Hid (efS R (aq R F) kk (i+1)=efS R (aq R F) kk i):=zx (by rw[Hi.out.2,←Hmb.out];rfl)
    go_wp2_with fail
    go_roundw
    case rel=>exact⟨i+1,m0,q0,c0,Hi.out.1,by first | rfl | (rw[hwk];rfl) | go_num,rfl,by rw[HN.out];exact HQ.out.1,by rw[HN.out];exact HQ.out.2.1,HQ.out.2.2⟩
    case measure=>first | exact HM.out | (rw[hwk];exact HM.out)
   | false =>
    have C2:=lv ok r v p gs t.card U HU.out.2.2.1
    unfold fO at C2
    obtain⟨h,hh⟩:∃ h,h=(atC p gs t.card).1:=⟨_,rfl⟩
    obtain⟨ps,hps⟩:∃ ps,ps=(atC p gs t.card).2:=⟨_,rfl⟩
    obtain⟨x,hx⟩:∃ x,x=atX p gs t.card:=⟨_,rfl⟩
    have Hps:Hid (ps.length≤4∧efS R (aq R F) kk (i+1)=efI (efS R (aq R F) kk i) kk ((j:Int)+1) i ps ps.length):=⟨by rw[hps];exact H4.out _,AH (by rw[Hi.out.2,←Hmb.out,hps];rfl)⟩
    rw[←hh,←hx,←hps] at C2
    unfold cv at C2
    clear hh hx hps
    go_wp2_with fail
    refine C2.mono ?_
    rintro e3 w3 ⟨u,rfl,ou,g3⟩
    obtain⟨pu,cu,rfl⟩:∃ p c,u=.slice p ps.length c:=by obtain⟨p,c,e,_⟩:=bz ou;exact⟨p,c,e⟩
    obtain⟨Z,hZ⟩:∃ Z,Z=w3.alloc (.cells #[.string h.nm,.int .u8 h.su,.int .u8 h.kd,.int .i64 h.co,.int .i64 h.po,.int .i64 h.he,.int .u16 h.tr,.bool h.tk,.slice pu ps.length cu] 111):=⟨_,rfl⟩
    have HZ:Hid (CdK Z w3.heap.size h (.slice pu ps.length cu)∧bA Z U.heap.size (.slice pu ps.length cu) ps∧U.grownBy Z none):=by
     have g:w3.grownBy Z none:=by rw[hZ];exact World.grownBy_alloc _ _ none
     exact⟨by rw[hZ];exact ak _ _ _,ar ou g,aa g3 g⟩
    clear C2 ou g3 cl0 t0
    go_upto_region 8 with fail
    rw[←hZ]
    obtain⟨nc,hnc⟩:∃ nc,nc=w3.heap.size:=⟨_,rfl⟩
    rw[←hnc] at HZ ⊢
    clear hZ hnc
    go_wp2_with fail
    obtain⟨D,hD⟩:∃ D,D=efS R (aq R F) kk i:=⟨_,rfl⟩
    have HD:Hid (D=efS R (aq R F) kk i∧D.length≤64):=⟨hD,Bs (by rw[hD];exact HEl.out i) Hi.out.1 HT.out.1.few⟩
    clear hD
    go_loopw [9,14] (fun v y wr=>∃ (k m:Nat) (q:Option Addr) (c:Nat),k≤ps.length∧y=.int .i64 (k:Int)∧v=.slice q m c∧Hid (m=(efI D kk ((j:Int)+1) i ps k).length∧dR wr w1.heap.size (.slice q m c) (efI D kk ((j:Int)+1) i ps k)∧w1.grownBy wr none∧CdK wr nc h (.slice pu ps.length cu)∧bA wr U.heap.size (.slice pu ps.length cu) ps∧aQ wr w.heap.size (.slice (some ⟨gl,0,none⟩) R.length cl) (R.map Rw.nu))) (fun _ y _=>ps.length - (intOf y).toNat)
    case atStart=>exact⟨0,m0,q0,c0,Nat.zero_le _,rfl,rfl,by rw[rM,HD.out.1];exact HQ.out.1,by rw[rM,HD.out.1];exact aB.Own.grow HQ.out.2.1 HZ.out.2.2,aa HQ.out.2.2 HZ.out.2.2,HZ.out.1,HZ.out.2.1,ar HU.out.1 HZ.out.2.2⟩
    case round =>
     obtain⟨k,m,q1,c1,hk',rfl,rfl,HY⟩:=hrel
     obtain⟨Y,hY⟩:∃ Y,Y=wr:=⟨_,rfl⟩
     subst hY
     have k8:Y.cell? ⟨nc,8,none⟩=some (.slice pu ps.length cu):=(ae HY.out.2.2.2.1 8).trans rfl
     by_cases hk:k<ps.length
     ·skip
      have hkk:(k:Int)<(ps.length:Int):=Int.ofNat_lt.2 hk
      have hwm:=aW (k:=k) (Nat.le_trans (Nat.le_of_lt hk) (Nat.le_trans Hps.out.1 (by decide)))
      have HMk:Hid (ps.length - (intOf (.int .i64 ((k:Int)+1))).toNat<ps.length - (intOf (.int .i64 (k:Int))).toNat):=bQ hk
      obtain⟨gp,op,cp,ep,hpt⟩:=(bA.at HY.out.2.2.2.2.1).part (Nat.lt_of_le_of_lt (Nat.zero_le _) hk)
      obtain⟨q,hq⟩:∃ q,ps[k]?=some q:=⟨_,List.getElem?_eq_getElem hk⟩
      obtain⟨p0,p1,p2,p3,p4,p5,p6,p7⟩:=hpt k q hq
      injection ep with ep ep2 ep3
      clear ep2 ep3
      subst ep
      have Hk:Hid (k<ps.length∧ps.getD k Pt.none=q):=⟨hk,by rw[List.getD_eq_getElem?_getD,hq];rfl⟩
      obtain⟨ly,hly⟩:∃ ly,ly=lay q.vb:=⟨_,rfl⟩
      have Hly:Hid (ly=lay q.vb):=hly
      have CL:∀ W,Calls Tryz.prog 139 #[.int .u8 q.vb] W fun e w'=>e=.returned (.int .i64 ly)∧w'=W:=fun W=>by rw[hly];exact iQ q.vb W
      clear hk' hk hq hpt hly
      by_cases w5:q.wn=5
      ·have d5:(q.wn == 5)=true:=by rw[w5];rfl
       have H5:Hid (q.wn=5):=w5
       clear w5
       by_cases wl:ly=kk
       ·have dl:(ly == kk)=true:=by rw[wl];exact beq_self_eq_true _
        have HN:Hid (efI D kk ((j:Int)+1) i ps (k+1)=efI D kk ((j:Int)+1) i ps k++[⟨(j:Int)+1,(k:Int),q⟩]):=Bw Hk.out.2 H5.out (by rw[←Hly.out];exact wl)
        clear wl
        go_wp2_with fail
        refine(CL Y).mono ?_
        rintro e4 w4 ⟨rfl,h4⟩
        obtain rfl:Y=w4:=h4.symm
        clear CL
        obtain⟨E,hE⟩:∃ E,E=efI D kk ((j:Int)+1) i ps k:=⟨_,rfl⟩
        have HE:Hid (E=efI D kk ((j:Int)+1) i ps k∧m=E.length∧E.length≤68):=by
         exact⟨hE,by rw[hE];exact HY.out.1,AK hE HD.out.2 Hps.out.1 Hk.out.1⟩
        have HO:Hid (Y.ownsRow w1.heap.size 64 10 (.slice q1 m c1) m (sdR.cs E)):=by
         have h9:=HY.out.2.1
         unfold dR aB.Own at h9
         rw[←hE,←HE.out.2.1] at h9
         exact h9
        clear hE
        have HLn:Hid (m+1≤maxLen∧(m+1)*56≤140737488355328∧w1.heap.size≤Y.heap.size):=by
         have a:=Ae HE.out.2.1 HE.out.2.2
         exact⟨a.1,a.2,HY.out.2.2.1.size⟩
        have hneL:some gl≠(Value.slice q1 m c1).ownBlock:=by obtain⟨cs9,fr9,hb9⟩:=jd HY.out.2.2.2.2.2 gl rfl;exact fk HO.out hb9 (by decide)
        have hneP:some gp≠(Value.slice q1 m c1).ownBlock:=by obtain⟨cs9,fr9,hb9⟩:=jd HY.out.2.2.2.2.1 gp rfl;exact fk HO.out hb9 (by decide)
        have hneC:some nc≠(Value.slice q1 m c1).ownBlock:=fk HO.out HY.out.2.2.2.1 (by decide)
        have hLi:=ja HY.out.2.2.2.2.2 (j:=i) (by rw[List.length_map];exact Hi.out.1)
        obtain⟨gl',egl,cl0⟩:=hLi
        injection egl with egl
        injection egl with egl _
        subst egl
        rw[gP _ _ _ Rw.none _ Hi.out.1,Hnu.out] at cl0
        go_upto_region 12 with fail
        refine wp_region_held_drew (S:=fun w'=>Y.grownBy w' (Value.slice q1 m c1).ownBlock) (by kernel_rfl) (bP _ _) (fun hHeld=>?_)
        refine QZ 0 rfl ?_
        go_frame
        refine QZ 1 rfl ?_
        go_frame
        refine QZ 2 rfl ?_
        go_frame
        refine QZ 3 rfl ?_
        go_frame
        refine QT 4 rfl (by intro w0 hSw;have cl0:=hSw.cell cl0 hneL;go_simp;try with_reducible rfl) ?_
        go_frame
        refine QZ 5 rfl ?_
        go_frame
        refine QZ 6 rfl ?_
        go_frame
        refine QT 7 rfl (by intro w0 hSw;have k8:=hSw.cell k8 hneC;go_simp;try with_reducible rfl) ?_
        go_frame
        refine QZ 8 rfl ?_
        go_frame
        refine QZ 9 rfl ?_
        go_frame
        refine QT 10 rfl (by intro w0 hSw;have p0:=hSw.cell p0 hneP;have p1:=hSw.cell p1 hneP;have p2:=hSw.cell p2 hneP;have p3:=hSw.cell p3 hneP;have p4:=hSw.cell p4 hneP;have p5:=hSw.cell p5 hneP;have p6:=hSw.cell p6 hneP;have p7:=hSw.cell p7 hneP;go_simp;try with_reducible rfl) ?_
        go_frame
        refine QZ 11 rfl ?_
        go_frame
        refine QR 12 rfl (fun K9 hK=>?_)
        go_simp
        refine hK.out _ _ (by first | exact aa (World.grownBy_alloc _ _ _) (bP _ _) | exact aa (bP _ _) (World.grownBy_alloc _ _ _)) (fun hHeld3=>?_)
        clear hK K9
        (try go_frame)
        have HG8:Hid (Y.grownBy ((Y.alloc (.cells (sdc ⟨(j:Int)+1,(k:Int),q⟩).toArray 64)).drew) (Value.slice q1 m c1).ownBlock):=aa (World.grownBy_alloc _ _ _) (bP _ _)
        have HO8:Hid (((Y.alloc (.cells (sdc ⟨(j:Int)+1,(k:Int),q⟩).toArray 64)).drew).ownsRow w1.heap.size 64 10 (.slice q1 m c1) m (sdR.cs E)):=ar (ar HO.out (World.grownBy_alloc _ _ none)) (ag _)
        have HS8:Hid (Src ((Y.alloc (.cells (sdc ⟨(j:Int)+1,(k:Int),q⟩).toArray 64)).drew) (.slice (some ⟨Y.heap.size,0,none⟩) 1 1) 1 10 (sdc ⟨(j:Int)+1,(k:Int),q⟩)):=Src.keep (yE Y _) (ag _)
        have HL8:Hid (w1.heap.size≤((Y.alloc (.cells (sdc ⟨(j:Int)+1,(k:Int),q⟩).toArray 64)).drew).heap.size):=Nat.le_trans HLn.out.2.2 (World.grownBy_alloc Y _ none).size
        refine QR 13 rfl (fun K9 hK=>?_)
        refine AU (.tmp 72) (.tmp 84) 30 rfl w1.heap.size 64 i0 _ 10 56 Tryz.underlying30 hi hz0 hz1 hz2 rfl (by decide) (.slice q1 m c1) (m) (sdR.cs E) rfl (HO8.out) (.slice (some ⟨Y.heap.size,0,none⟩) 1 1) (1) (sdc ⟨(j:Int)+1,(k:Int),q⟩) rfl (HS8.out) (iR _) (HLn.out.1) (HLn.out.2.1) (HL8.out) ?_
        intro v' w7 o7 g7 l7
        obtain⟨w9,hw9⟩:∃ w9,w9=w7:=⟨_,rfl⟩
        subst hw9
        obtain⟨v9,hv9⟩:∃ v9,v9=v':=⟨_,rfl⟩
        subst hv9
        have HO9:Hid _:=o7
        have HG9:Hid (Y.grownBy w9 (Value.slice q1 m c1).ownBlock):=aa HG8.out g7
        clear o7 g7 l7
        refine hK.out _ _ (HG9.out) (fun hHeld3=>?_)
        clear hK K9
        (try go_frame)
        refine QZ 14 rfl ?_
        go_frame
        refine QD ?_
        have HF:Hid (m+1=(efI D kk ((j:Int)+1) i ps (k+1)).length∧dR w9 w1.heap.size v9 (efI D kk ((j:Int)+1) i ps (k+1))∧w1.grownBy w9 none∧CdK w9 nc h (.slice (some ⟨gp,op,none⟩) ps.length cu)∧bA w9 U.heap.size (.slice (some ⟨gp,op,none⟩) ps.length cu) ps∧aQ w9 w.heap.size (.slice (some ⟨gl,0,none⟩) R.length cl) (R.map Rw.nu)):=by
         rw[HN.out,←HE.out.1]
         refine⟨by rw[List.length_append,←HE.out.2.1];rfl,aB.more HO9.out HE.out.2.1,az HY.out.2.2.1 HG9.out (fun y e=>(World.ownsRow.lt HO.out y e).1),?_,?_,?_⟩
         ·exact ai HG9.out HY.out.2.2.2.1 hneC
         ·exact World.ownsRow.kept HY.out.2.2.2.2.1 HG9.out (Or.inr (fun z=>hneP (by rw[←z];rfl)))
         ·exact World.ownsRow.kept HY.out.2.2.2.2.2 HG9.out (Or.inr (fun z=>hneL (by rw[←z];rfl)))
        obtain⟨pv,kv,ev9,-⟩:=bz HO9.out
        subst ev9
        clear hneL hneP hneC cl0 p0 p1 p2 p3 p4 p5 p6 p7 hHeld
        go_wp2_with fail
        go_roundw
        case rel=>exact⟨k+1,m+1,pv,kv,Hk.out.1,by first | rfl | (rw[hwm];rfl) | go_num,rfl,HF.out⟩
        case measure=>first | exact HMk.out | (rw[hwm];exact HMk.out)
       ·have dl:(ly == kk)=false:=by simpa using wl
        have HN:Hid (efI D kk ((j:Int)+1) i ps (k+1)=efI D kk ((j:Int)+1) i ps k):=yA Hk.out.2 (fun z=>wl (by rw[Hly.out];exact z.2))
        clear wl
        go_wp2_with fail
        refine(CL Y).mono ?_
        rintro e4 w4 ⟨rfl,h4⟩
        obtain rfl:Y=w4:=h4.symm
        clear CL p0 p1 p2 p3 p4 p5 p6 p7
        go_wp2_with fail
        go_roundw
        case rel=>exact⟨k+1,m,q1,c1,Hk.out.1,by first | rfl | (rw[hwm];rfl) | go_num,rfl,by rw[HN.out];exact HY.out⟩
        case measure=>first | exact HMk.out | (rw[hwm];exact HMk.out)
      ·have d5:(q.wn == 5)=false:=by simpa using w5
       have HN:Hid (efI D kk ((j:Int)+1) i ps (k+1)=efI D kk ((j:Int)+1) i ps k):=yA Hk.out.2 (fun z=>w5 z.1)
       clear w5 CL
       go_wp2_with fail
       go_roundw
       case rel=>exact⟨k+1,m,q1,c1,Hk.out.1,by first | rfl | (rw[hwm];rfl) | go_num,rfl,by rw[HN.out];exact HY.out⟩
       case measure=>first | exact HMk.out | (rw[hwm];exact HMk.out)
     ·obtain rfl:k=ps.length:=Nat.le_antisymm hk' (Nat.le_of_not_lt hk)
      have k1:¬(ps.length:Int)<(ps.length:Int):=Int.lt_irrefl _
      clear hk' hk
      go_wp2_with fail
      go_roundw
      case rel=>exact⟨i+1,m,q1,c1,Hi.out.1,by first | rfl | (rw[hwk];rfl) | go_num,rfl,by rw[Hps.out.2,←HD.out.1];exact HY.out.1,by rw[Hps.out.2,←HD.out.1];exact HY.out.2.1,HY.out.2.2.1⟩
      case measure=>first | exact HM.out | (rw[hwk];exact HM.out)
  ·obtain rfl:i=R.length:=Nat.le_antisymm hi' (Nat.le_of_not_lt hi2)
   have i1:¬(R.length:Int)<(R.length:Int):=Int.lt_irrefl _
   have HF:Hid (dR U w.heap.size (.slice q0 m0 c0) ((cU R (aq R F) kk).map Se.s)∧w.grownBy U none):=⟨aT HQ.out.2.1 H1.out.2.size,aa H1.out.2 HQ.out.2.2⟩
   clear hi' hi2 HQ
   go_wp2_with fail
   go_ret
   exact⟨_,rfl,HF.out.1,HF.out.2⟩
theorem vJ {r n:Int} {cd:Int→Hd×List Pt} {ts:List Th} {F:List Fe} {k:Int} (h:lkE r n cd ts F []=0) (hk:¬(1≤k∧k≤5)):bgE r n cd ts F k=2:=by
 unfold bgE
 rw[if_pos h,if_neg hk]
theorem BT {r n:Int} {cd:Int→Hd×List Pt} {ts:List Th} {F:List Fe} {k:Int} (h:lkE r n cd ts F []=0) (hk:1≤k∧k≤5):bgE r n cd ts F k=0:=by
 unfold bgE
 rw[if_pos h,if_pos hk]
theorem AC {r n:Int} {cd:Int→Hd×List Pt} {ts:List Th} {F:List Fe} {k q:Int} (h:q=lkE r n cd ts F []) (h0:q≠0):bgE r n cd ts F k=q:=by
 unfold bgE
 rw[←h,if_neg h0]
theorem kj (ok:Nat→Prop) (r:Nat) (v:Value) (p:Pl) (gs:List Ent) (vt vf:Value) (ts:List Th) (F:List Fe) (k:Int) (w:World) (B:RD ok w r v p gs) (A:thR.At w vt ts) (AF:feR.At w vf F) (hr:TrI F):Calls Tryz.prog 14 #[.pointer (some ⟨r,0,none⟩),vt,vf,.int .i64 k] w (ft w (bG p ts.length) (gs.length:Int) (atC p gs) ts F k):=by
 obtain⟨pt,ct,rfl⟩:=A.form
 obtain⟨pf,cf,rfl⟩:=AF.form
 have C1:=fQ ok r v p gs _ _ ts F w B A AF hr
 have HV:Hid (RD ok w r v p gs∧thR.At w (.slice pt ts.length ct) ts∧feR.At w (.slice pf F.length cf) F):=⟨B,A,AF⟩
 obtain⟨q,hq⟩:∃ q,q=lkE (bG p ts.length) (gs.length:Int) (atC p gs) ts F []:=⟨_,rfl⟩
 have Hq:Hid (q=lkE (bG p ts.length) (gs.length:Int) (atC p gs) ts F []):=hq
 rw[←hq] at C1
 clear B A AF hr hq
 go_enter Tryz.func14,Tryz.ntmps14
 go_wp2_with fail
 refine C1.mono ?_
 rintro e1 w1 ⟨rfl,g1⟩
 have H1:Hid (w.grownBy w1 none∧RD ok w1 r v p gs∧thR.At w1 (.slice pt ts.length ct) ts∧feR.At w1 (.slice pf F.length cf) F):=⟨g1,HV.out.1.keep g1,HV.out.2.1.keep g1,HV.out.2.2.keep g1⟩
 clear C1 g1 HV
 by_cases h0:q=0
 ·have HZ:Hid (lkE (bG p ts.length) (gs.length:Int) (atC p gs) ts F []=0):=by show _=_;rw[←Hq.out,h0]
  obtain⟨r0,R,hR⟩:=ib (Hq.out.symm.trans h0)
  have hlen:ts.length≤2048:=Nat.le_of_not_lt fun z=>by
   unfold bG at r0
   rw[if_pos z] at r0
   cases r0
  have HT:Hid (bG p ts.length=0∧Tab (gs.length:Int) (atC p gs) ts F R∧ts.length≤2048):=⟨r0,Tab.of hR,hlen⟩
  have e0:(q != 0)=false:=by rw[h0];rfl
  clear h0 r0 hR hlen
  by_cases a1:k<1
  ·have d1:decide (k<1)=true:=decide_eq_true a1
   have HN:Hid (bgE (bG p ts.length) (gs.length:Int) (atC p gs) ts F k=2∧¬(1≤k∧k≤5)):=⟨vJ HZ.out (by omega),by omega⟩
   clear a1
   go_wp2_with fail
   go_ret2
   exact⟨none,0,0,by rw[HN.out.1] <;> rfl,H1.out.1,fun _=>⟨rfl,rfl,rfl⟩,fun R' _ hk=>absurd hk HN.out.2⟩
  ·have d1:decide (k<1)=false:=decide_eq_false a1
   by_cases a2:5<k
   ·have d2:decide (5<k)=true:=decide_eq_true a2
    have HN:Hid (bgE (bG p ts.length) (gs.length:Int) (atC p gs) ts F k=2∧¬(1≤k∧k≤5)):=⟨vJ HZ.out (by omega),by omega⟩
    clear a1 a2
    go_wp2_with fail
    go_ret2
    exact⟨none,0,0,by rw[HN.out.1] <;> rfl,H1.out.1,fun _=>⟨rfl,rfl,rfl⟩,fun R' _ hk=>absurd hk HN.out.2⟩
   ·have d2:decide (5<k)=false:=decide_eq_false a2
    have HN:Hid (bgE (bG p ts.length) (gs.length:Int) (atC p gs) ts F k=0):=BT HZ.out (by omega)
    have C2:=qo ok r v p gs _ _ ts F R k w1 H1.out.2.1 H1.out.2.2.1 H1.out.2.2.2 HT.out.2.1 HT.out.2.2
    clear a1 a2
    go_wp2_with fail
    refine C2.mono ?_
    rintro e2 w2 ⟨v2,rfl,o2,g2⟩
    obtain⟨p2,c2,ev⟩:=aB.Own.form o2
    subst ev
    have H2:Hid (dR w2 w.heap.size (.slice p2 ((cU R (aq R F) k).map Se.s).length c2) ((cU R (aq R F) k).map Se.s)∧w.grownBy w2 none):=⟨aT o2 H1.out.1.size,aa H1.out.1 g2⟩
    clear C2 o2 g2
    go_wp2_with fail
    go_ret2
    exact⟨p2,_,c2,by rw[HN.out] <;> rfl,H2.out.2,fun z=>absurd HN.out z,fun R' _ _ hR'=>by
     rw[HT.out.2.1.tab] at hR'
     cases hR'
     have h9:=H2.out.1
     rw[List.length_map] at h9
     exact h9⟩
 ·have e0:(q != 0)=true:=by simpa using h0
  have HN:Hid (bgE (bG p ts.length) (gs.length:Int) (atC p gs) ts F k=q):=AC Hq.out h0
  have H0:Hid (q≠0):=h0
  clear h0
  go_wp2_with fail
  go_ret2
  exact⟨none,0,0,by rw[HN.out] <;> rfl,H1.out.1,fun _=>⟨rfl,rfl,rfl⟩,fun R' r0 _ hR'=>by
   have h9:=Hq.out
   rw[r0,eI hR'] at h9
   exact absurd h9 H0.out⟩
def ahL (ts:List Th) (a b:Sd):Bool:=ahB (jr ts a.th) (jr ts b.th) a.pl b.pl
def InT (ts:List Th) (a:Sd):Prop:=∃ (z:Nat) (t:Th),a.th=(z:Int)+1∧ts[z]?=some t
theorem qC {ts:List Th} {a b:Sd}:ahL ts a b=true↔jr ts a.th<jr ts b.th∨jr ts a.th=jr ts b.th∧a.pl<b.pl:=by
 unfold ahL ahB
 simp[Bool.or_eq_true,Bool.and_eq_true,decide_eq_true_eq]
theorem mM (ts:List Th) (a:Sd):ahL ts a a=false:=Bool.eq_false_iff.2 fun h=>by rw[qC] at h;omega
theorem oj {ts:List Th} {a b c:Sd} (h1:ahL ts a b=true) (h2:ahL ts b c=true):ahL ts a c=true:=by rw[qC] at *;omega
theorem mV (vt:Value) (ts:List Th) (a b:Sd) (w:World) (A:thR.At w vt ts) (ha:InT ts a) (hb:InT ts b) (hl:ts.length≤2048):Calls Tryz.prog 140 #[vt,sdv a,sdv b] w fun e w'=>e=.returned (.bool (ahL ts a b))∧w.grownBy w' none:=by
 obtain⟨z,t,h1,h2⟩:=ha
 obtain⟨y,u,h3,h4⟩:=hb
 have e1:jr ts a.th=t.stamp:=by unfold jr;rw[h1,toN,List.getD_eq_getElem?_getD,h2];rfl
 have e2:jr ts b.th=u.stamp:=by unfold jr;rw[h3,toN,List.getD_eq_getElem?_getD,h4];rfl
 have h:=yh vt ts a b z y t u w A h1 h2 h3 h4 hl
 unfold ahL
 rw[e1,e2]
 exact h
structure NxU (ts:List Th) (S:List Sd) (P:Nat→Bool) (i a:Nat) (f:Int):Prop where
 first:a≤i∧(i=0→a=0)∧(0<i→a<i)∧∀ b,b<i→ahL ts (S.getD b Sd.none) (S.getD a Sd.none)=false
 free:(f=-1∧∀ b,b<i→P b=false)∨∃ c:Nat,c<i∧f=(c:Int)∧P c=true∧∀ b,b<i→P b=true→ahL ts (S.getD b Sd.none) (S.getD c Sd.none)=false
theorem NxU.start (ts:List Th) (S:List Sd) (P:Nat→Bool):NxU ts S P 0 0 (-1):=⟨⟨Nat.le_refl _,fun _=>rfl,fun h=>absurd h (Nat.lt_irrefl _),fun _ h=>absurd h (Nat.not_lt_zero _)⟩,Or.inl ⟨rfl,fun _ h=>absurd h (Nat.not_lt_zero _)⟩⟩
def NxF (ts:List Th) (S:List Sd) (i a:Nat):Prop:=a<i+1∧∀ b,b<i+1→ahL ts (S.getD b Sd.none) (S.getD a Sd.none)=false
theorem NxU.here {ts:List Th} {S:List Sd} {P:Nat→Bool} {i a:Nat} {f:Int} (h:NxU ts S P i a f) (e:ahL ts (S.getD i Sd.none) (S.getD a Sd.none)=true):NxF ts S i i:=⟨Nat.lt_succ_self _,fun b hb=>by
 by_cases q:b=i
 ·subst q;exact mM _ _
 ·refine Bool.eq_false_iff.2 fun z=>?_
  have:=oj z e
  rw[h.first.2.2.2 b (by omega)] at this
  cases this⟩
theorem NxU.there {ts:List Th} {S:List Sd} {P:Nat→Bool} {i a:Nat} {f:Int} (h:NxU ts S P i a f) (e:ahL ts (S.getD i Sd.none) (S.getD a Sd.none)=false):NxF ts S i a:=⟨Nat.lt_succ_of_le h.first.1,fun b hb=>by
 by_cases q:b=i
 ·subst q;exact e
 ·exact h.first.2.2.2 b (by omega)⟩
theorem NxF.next {ts:List Th} {S:List Sd} {i a:Nat} (h:NxF ts S i a):a≤i+1∧(i+1=0→a=0)∧(0<i+1→a<i+1)∧∀ b,b<i+1→ahL ts (S.getD b Sd.none) (S.getD a Sd.none)=false:=⟨Nat.le_of_lt h.1,fun z=>absurd z (by omega),fun _=>h.1,h.2⟩
theorem NxU.stuck {ts:List Th} {S:List Sd} {P:Nat→Bool} {i a a':Nat} {f:Int} (h:NxU ts S P i a f) (hf:NxF ts S i a') (hp:P i=false):NxU ts S P (i+1) a' f:=⟨hf.next,by
 rcases h.free with ⟨h1,h2⟩ | ⟨c,h1,h2,h3,h4⟩
 ·refine Or.inl ⟨h1,fun b hb=>?_⟩
  by_cases q:b=i
  ·subst q;exact hp
  ·exact h2 b (by omega)
 ·refine Or.inr ⟨c,by omega,h2,h3,fun b hb hpb=>?_⟩
  by_cases q:b=i
  ·subst q;rw[hp] at hpb;cases hpb
  ·exact h4 b (by omega) hpb⟩
theorem NxU.new {ts:List Th} {S:List Sd} {P:Nat→Bool} {i a a':Nat} (h:NxU ts S P i a (-1)) (hf:NxF ts S i a') (hp:P i=true):NxU ts S P (i+1) a' (i:Int):=⟨hf.next,by
 rcases h.free with ⟨h1,h2⟩ | ⟨c,h1,h2,h3,h4⟩
 ·refine Or.inr ⟨i,by omega,rfl,hp,fun b hb hpb=>?_⟩
  by_cases q:b=i
  ·subst q;exact mM _ _
  ·rw[h2 b (by omega)] at hpb;cases hpb
 ·omega⟩
theorem NxU.less {ts:List Th} {S:List Sd} {P:Nat→Bool} {i a a' c:Nat} (h:NxU ts S P i a (c:Int)) (hf:NxF ts S i a') (hp:P i=true) (e:ahL ts (S.getD i Sd.none) (S.getD c Sd.none)=true):NxU ts S P (i+1) a' (i:Int):=⟨hf.next,by
 rcases h.free with ⟨h1,h2⟩ | ⟨c',h1,h2,h3,h4⟩
 ·omega
 ·obtain rfl:c=c':=by omega
  refine Or.inr ⟨i,by omega,rfl,hp,fun b hb hpb=>?_⟩
  by_cases q:b=i
  ·subst q;exact mM _ _
  ·refine Bool.eq_false_iff.2 fun z=>?_
   have:=oj z e
   rw[h4 b (by omega) hpb] at this
   cases this⟩
theorem NxU.more {ts:List Th} {S:List Sd} {P:Nat→Bool} {i a a' c:Nat} (h:NxU ts S P i a (c:Int)) (hf:NxF ts S i a') (hp:P i=true) (e:ahL ts (S.getD i Sd.none) (S.getD c Sd.none)=false):NxU ts S P (i+1) a' (c:Int):=⟨hf.next,by
 rcases h.free with ⟨h1,h2⟩ | ⟨c',h1,h2,h3,h4⟩
 ·omega
 ·obtain rfl:c=c':=by omega
  refine Or.inr ⟨c,by omega,rfl,h3,fun b hb hpb=>?_⟩
  by_cases q:b=i
  ·subst q;exact e
  ·exact h4 b (by omega) hpb⟩
def hgK (R:List Rw) (F:List Fe) (L:List Se) (i k:Nat):Bool:=(List.range k).any fun j=>!decide (j=i) && eX R F (L.getD i Se.none) (L.getD j Se.none)
theorem jI (R:List Rw) (F:List Fe) (L:List Se) (i k:Nat):hgK R F L i (k+1)=(hgK R F L i k || (!decide (k=i) && eX R F (L.getD i Se.none) (L.getD k Se.none))):=by
 unfold hgK
 rw[List.range_succ,List.any_append]
 simp
theorem rI {R:List Rw} {F:List Fe} {L:List Se} {i k n:Nat} (h:hgK R F L i k=true) (hk:k≤n):hgK R F L i n=true:=by
 unfold hgK at *
 rw[List.any_eq_true] at *
 obtain⟨j,hj,e⟩:=h
 exact⟨j,List.mem_range.2 (Nat.lt_of_lt_of_le (List.mem_range.1 hj) hk),e⟩
theorem jS {R:List Rw} {F:List Fe} {L:List Se} {i:Nat}:bI R F L i=!hgK R F L i L.length:=by
 unfold bI hgK
 rw[Bool.eq_iff_iff]
 simp[List.all_eq_true,List.any_eq_false]
 constructor
 ·intro h j hj hne
  rcases h j hj with q | q
  ·exact absurd q.symm hne
  ·exact q
 ·intro h j hj
  by_cases q:i=j
  ·exact Or.inl q
  ·exact Or.inr (h j hj (fun z=>q z.symm))
end Go.Proofs.YtjmepebbcnhalaaGreat
