/-
  
-/
import Derived.Test.YthfjgpjcepmnmaaGreatO0
import Derived.Test.YthfjgpjcepmnmaaGreatO37
namespace Go.Proofs.YthfjgpjcepmnmaaGreat
set_option maxRecDepth 100000
set_option maxHeartbeats 4000000
open Go.RowKit Go.Shelf

theorem Tab.effAt {n:Int} {cd:Int→Hd×List Pt} {ts:List Th} {F:List Fe} {R:List Rw} (h:Tab n cd ts F R) {i:Nat} (hi:i<R.length) (k:Int):∃ (j:Nat) (t:Th) (f:Fe),ts[j]?=some t∧F[j]?=some f∧(R.getD i Rw.none).nu=(j:Int)+1∧jc R (au R F) k i=if iC f.tr 6 then [] else eC k ((j:Int)+1) i (cd t.card).2 (cd t.card).2.length:=by
 obtain⟨j,t,ht,h4,e⟩:=h.row (show R.getD i Rw.none∈R by rw[aw hi];exact List.getElem_mem _)
 have hj:j<F.length:=by rw[←h.len];exact(List.getElem?_eq_some_iff.1 ht).1
 have nj:(R.getD i Rw.none).nu=(j:Int)+1:=by rw[e]
 refine⟨j,t,F[j],ht,List.getElem?_eq_getElem hj,nj,?_⟩
 have p1:(au R F).getD i Fe.none=F[j]:=by
  unfold au
  rw[fK _ _ _ Rw.none _ hi,nj,toN,aw hj]
 unfold jc
 rw[p1,nj,show (R.getD i Rw.none).ps=(cd t.card).2 from by rw[e]]
def efS (R:List Rw) (F:List Fe) (k:Int) (i:Nat):List Sd:=(ie R F k i).map Se.s
def efI (D:List Sd) (k nu:Int) (ro:Nat) (ps:List Pt) (m:Nat):List Sd:=D++(eC k nu ro ps m).map Se.s
theorem re (D:List Sd) (k nu:Int) (ro:Nat) (ps:List Pt):efI D k nu ro ps 0=D:=by
 unfold efI eC
 simp
theorem Dx {D:List Sd} {k nu:Int} {ro:Nat} {ps:List Pt} {m:Nat} {q:Pt} (hq:ps.getD m Pt.none=q) (h:q.wn=5) (h2:lay q.vb=k):efI D k nu ro ps (m+1)=efI D k nu ro ps m++[⟨nu,(m:Int),q⟩]:=by
 unfold efI
 rw[kw,hq,if_pos ⟨h,h2⟩,List.map_append,List.append_assoc]
 rfl
theorem BO {D:List Sd} {k nu:Int} {ro:Nat} {ps:List Pt} {m:Nat} {q:Pt} (hq:ps.getD m Pt.none=q) (h:¬(q.wn=5∧lay q.vb=k)):efI D k nu ro ps (m+1)=efI D k nu ro ps m:=by
 unfold efI
 rw[kw,hq,if_neg h,List.append_nil]
theorem Dm (D:List Sd) (k nu:Int) (ro:Nat) (ps:List Pt) (m:Nat):(efI D k nu ro ps m).length≤D.length+m:=by
 unfold efI
 rw[List.length_append,List.length_map]
 exact Nat.add_le_add_left (mI _ _ _ _ _) _
theorem BT {D E:List Sd} {k nu:Int} {ro m:Nat} {ps:List Pt} (h:E=efI D k nu ro ps m) (hD:D.length≤64) (h4:ps.length≤4) (hm:m<ps.length):E.length≤68:=by
 have a:=Dm D k nu ro ps m
 rw[←h] at a
 omega
theorem zp {n m:Nat} (h:m=n) (hn:n≤68):m+1≤maxLen∧(m+1)*56≤140737488355328:=⟨by unfold maxLen;omega,by omega⟩
theorem Dh {D:List Sd} {i n:Nat} (h:D.length≤i*4) (hi:i<n) (hn:n≤16):D.length≤64:=by omega
theorem Ac {R:List Rw} {F:List Fe} {k:Int} {i:Nat} (h:jc R F k i=[]):efS R F k (i+1)=efS R F k i:=by
 unfold efS
 rw[iW,h,List.append_nil]
theorem Dk {R:List Rw} {F:List Fe} {k nu:Int} {i:Nat} {ps:List Pt} (h:jc R F k i=eC k nu i ps ps.length):efS R F k (i+1)=efI (efS R F k i) k nu i ps ps.length:=by
 unfold efS efI
 rw[iW,h,List.map_append]
theorem iQ {P:Program} {w:World} {o:Oper} {a:Act} {K:Act→World→Prop} {Q:Exit→Act→World→Prop} (s x:Operand) (t:TypeId)
  (ho:o.op=.call { callee:=.builtin .append,args:=#[s,x],argTypes:=#[t,t] })
  (base:Nat) (e:TypeId) (i:TypeInfo) (z:Value) (size bytes:Nat) (ht:P.underlying t=some (.slice e)) (hi:P.info? e=some i) (hz:i.zero=some z)
  (hsize:i.size=size) (hby:i.bytes=bytes) (hzs:z.cells.size=size) (hsz:0<size)
  (v:Value) (n:Nat) (xs:List Value) (hs:a.eval s=v) (hown:w.ownsRow base e size v n xs)
  (vx:Value) (m:Nat) (ys:List Value) (hx:a.eval x=vx) (hsrc:Src w vx m size ys) (h1:∀ u∈ys,u.oneCell'=true)
  (h63:n+m≤maxLen) (hbytes:(n+m)*bytes≤140737488355328) (hbase:base≤w.heap.size)
  (h:∀ v' w',w'.ownsRow base e size v' (n+m) (xs++ys)→w.grownBy w' v.ownBlock→(v'.ownBlock=v.ownBlock∨v'.ownBlock=some w.heap.size)→K (a.put o.dst v') w'):Oper.wp P o a w K Q:=by
 obtain⟨p,c,e1,hl,hc⟩:=hsrc
 subst e1
 by_cases h0:m=0
 ·subst h0
  have hy:ys=[]:=List.length_eq_zero_iff.1 (by omega)
  subst hy
  cases p with
  | none =>
   have hx2:a.eval x=.slice none 0 c:=hx
   have hrun:(Builtin.append_ #[t,t] o.type #[v,.slice none 0 c]).run P w=.ok v w:=run_append_owned_none (P:=P) (w:=w) base t o.type e i size ht hi v n xs hown
   unfold Oper.wp
   simp[execOp,ho,resolve,invoke,builtin,hs,hx2,hrun,Result.andThen]
   exact h v w (by rw[List.append_nil];exact hown) (aq _ _) (Or.inl rfl)
  | some ad =>
   exact fb s x t ho base e i z size bytes ht hi hz hsize hby hzs hsz v n xs hs hown ad 0 c [] hx (by simp) (fun j u hu=>by simp at hu) h1 h63 hbytes hbase h
 ·obtain⟨ad,e2,hcell⟩:=hc (by omega)
  subst e2
  exact fb s x t ho base e i z size bytes ht hi hz hsize hby hzs hsz v n xs hs hown ad m c ys hx hl hcell h1 h63 hbytes hbase h
theorem An (Z:World) (e:Sd):Src (Z.alloc (.cells (sdc e).toArray 40)) (.slice (some ⟨Z.heap.size,0,none⟩) 1 1) 1 10 (sdc e):=ld (cs:=(sdc e).toArray) (ai Z _ _) rfl 1
theorem pd (ok:Nat→Prop) (r:Nat) (v:Value) (p:Pl) (gs:List Ent) (vt vf:Value) (ts:List Th) (F:List Fe) (R:List Rw) (kk:Int) (w:World) (B:RD ok w r v p gs) (A:thR.At w vt ts) (AF:feR.At w vf F) (hT:Tab (gs.length:Int) (atC p gs) ts F R) (hl:ts.length≤2048):Calls Tryz.prog 98 #[.pointer (some ⟨r,0,none⟩),vt,vf,.int .i64 kk] w fun e w'=>∃ v,e=.returned v∧bi w' w.heap.size v ((dc R (au R F) kk).map Se.s)∧w.grownBy w' none:=by
 obtain⟨i0,hi,hz0,hz1,hz2⟩:=info_parts Tryz.linfoD
 obtain⟨pt,ct,rfl⟩:=A.form
 obtain⟨pf,cf,rfl⟩:=AF.form
 have HV:Hid (RD ok w r v p gs∧thR.At w (.slice pt ts.length ct) ts∧feR.At w (.slice pf F.length cf) F):=⟨B,A,AF⟩
 have H4:Hid (∀ c,(atC p gs c).2.length≤4):=B.four
 have HT:Hid (Tab (gs.length:Int) (atC p gs) ts F R∧ts.length≤2048∧F.length≤2048):=⟨hT,hl,by rw[←hT.len];exact hl⟩
 have CO:=lP _ _ _ ts F R w A hT hl
 have HEl:Hid (∀ i,(efS R (au R F) kk i).length≤i*4):=fun i=>by
  unfold efS
  rw[List.length_map]
  exact iB (fun x=>hT.ps4 B.four x) i
 clear B A AF hT hl
 go_enter Tryz.func98,Tryz.ntmps98
 go_wp2_with fail
 refine CO.mono ?_
 rintro e1 w1 ⟨v1,rfl,o1,g1⟩
 obtain⟨pl,cl,ev⟩:=aU.form o1
 rw[List.length_map] at ev
 subst ev
 have H1:Hid (aU w1 w.heap.size (.slice pl R.length cl) (R.map Rw.nu)∧w.grownBy w1 none):=⟨o1,g1⟩
 clear CO o1 g1
 go_wp2_with fail
 go_loopw [9,11,12,13,14] (fun v y _ _ _ wr=>∃ (i m:Nat) (q:Option Addr) (c:Nat),i≤R.length∧y=.int .i64 (i:Int)∧v=.slice q m c∧Hid (m=(efS R (au R F) kk i).length∧bi wr w1.heap.size (.slice q m c) (efS R (au R F) kk i)∧w1.grownBy wr none)) (fun _ y _ _ _ _=>R.length - (intOf y).toNat)
 case atStart=>exact⟨0,0,none,0,Nat.zero_le _,rfl,rfl,rfl,ay.Own.nil _ _ _ _,aq _ _⟩
 case round =>
  obtain⟨i,m0,q0,c0,hi',rfl,rfl,HQ⟩:=hrel
  obtain⟨U,hU⟩:∃ U,U=wr:=⟨_,rfl⟩
  subst hU
  by_cases hi2:i<R.length
  ·have i1:(i:Int)<(R.length:Int):=Int.ofNat_lt.2 hi2
   have hwk:=aK (k:=i) (Nat.le_trans (Nat.le_of_lt hi2) (Nat.le_trans HT.out.1.few (by decide)))
   have HM:Hid (R.length - (intOf (.int .i64 ((i:Int)+1))).toNat<R.length - (intOf (.int .i64 (i:Int))).toNat):=bF hi2
   obtain⟨j,t,f,ht,hf,hn,hE⟩:=HT.out.1.effAt hi2 kk
   have HU:Hid (aU U w.heap.size (.slice pl R.length cl) (R.map Rw.nu)∧w.grownBy U none∧RD ok U r v p gs∧thR.At U (.slice pt ts.length ct) ts∧feR.At U (.slice pf F.length cf) F):=by
    have g:=aa H1.out.2 HQ.out.2.2
    exact⟨aA H1.out.1 HQ.out.2.2,g,HV.out.1.keep g,HV.out.2.1.keep g,HV.out.2.2.keep g⟩
   obtain⟨gl,ep,cl0⟩:=j7 HU.out.1 (j:=i) (by rw[List.length_map];exact hi2)
   subst ep
   rw[fK _ _ _ Rw.none _ hi2,hn] at cl0
   have hjt:j<ts.length:=(List.getElem?_eq_some_iff.1 ht).1
   have hjf:j<F.length:=(List.getElem?_eq_some_iff.1 hf).1
   obtain⟨wj,wj2,j1⟩:=wrS hjt HT.out.2.1
   have j2:(j:Int)<(F.length:Int):=Int.ofNat_lt.2 hjf
   obtain⟨gT,oT,cT,eT,-⟩:=bG HU.out.2.2.2.1 hjt
   injection eT with eT eT2 eT3
   clear eT2 eT3
   subst eT
   obtain⟨gF,oF,cF,eF,-⟩:=dG HU.out.2.2.2.2 hjf
   injection eF with eF eF2 eF3
   clear eF2 eF3
   subst eF
   obtain⟨t0,-⟩:=bc (j8 HU.out.2.2.2.1 ht)
   obtain⟨-,-,f2,-⟩:=cC (fW HU.out.2.2.2.2 hf)
   have Hnu:Hid ((R.getD i Rw.none).nu=(j:Int)+1):=hn
   have Hi:Hid (i<R.length∧jc R (au R F) kk i=if iC f.tr 6 then [] else eC kk ((j:Int)+1) i (atC p gs t.card).2 (atC p gs t.card).2.length):=⟨hi2,hE⟩
   obtain⟨mb,hmb⟩:∃ mb,mb=iC f.tr 6:=⟨_,rfl⟩
   have Hmb:Hid (mb=iC f.tr 6):=hmb
   have CH:∀ W,Calls Tryz.prog 77 #[.int .u16 f.tr,.int .u8 6] W fun e w'=>e=.returned (.bool mb)∧w'=W:=fun W=>by rw[hmb];exact oj f.tr 6 W
   clear hi' hi2 ht hf hn hE hjt hjf hmb
   go_upto_region 6 with fail
   go_wp2_with fail
   refine(CH U).mono ?_
   rintro e2 w2 ⟨rfl,h2⟩
   obtain rfl:U=w2:=h2.symm
   clear CH f2
   cases mb with
   | true =>
    have HN:Hid (efS R (au R F) kk (i+1)=efS R (au R F) kk i):=Ac (by rw[Hi.out.2,←Hmb.out];rfl)
    go_wp2_with fail
    go_roundw
    case rel=>exact⟨i+1,m0,q0,c0,Hi.out.1,by first | rfl | (rw[hwk];rfl) | go_num,rfl,by rw[HN.out];exact HQ.out.1,by rw[HN.out];exact HQ.out.2.1,HQ.out.2.2⟩
    case measure=>first | exact HM.out | (rw[hwk];exact HM.out)
   | false =>
    have C2:=lc ok r v p gs t.card U HU.out.2.2.1
    unfold gu at C2
    obtain⟨h,hh⟩:∃ h,h=(atC p gs t.card).1:=⟨_,rfl⟩
    obtain⟨ps,hps⟩:∃ ps,ps=(atC p gs t.card).2:=⟨_,rfl⟩
    obtain⟨x,hx⟩:∃ x,x=atX p gs t.card:=⟨_,rfl⟩
    have Hps:Hid (ps.length≤4∧efS R (au R F) kk (i+1)=efI (efS R (au R F) kk i) kk ((j:Int)+1) i ps ps.length):=⟨by rw[hps];exact H4.out _,Dk (by rw[Hi.out.2,←Hmb.out,hps];rfl)⟩
    rw[←hh,←hx,←hps] at C2
    unfold cv at C2
    clear hh hx hps
    go_wp2_with fail
    refine C2.mono ?_
    rintro e3 w3 ⟨u,rfl,ou,g3⟩
    obtain⟨pu,cu,rfl⟩:∃ p c,u=.slice p ps.length c:=by obtain⟨p,c,e,_⟩:=cH ou;exact⟨p,c,e⟩
    obtain⟨Z,hZ⟩:∃ Z,Z=w3.alloc (.cells #[.string h.nm,.int .u8 h.su,.int .u8 h.kd,.int .i64 h.co,.int .i64 h.po,.int .i64 h.he,.int .u16 h.tr,.bool h.tk,.slice pu ps.length cu] 54):=⟨_,rfl⟩
    have HZ:Hid (CdK Z w3.heap.size h (.slice pu ps.length cu)∧bx Z U.heap.size (.slice pu ps.length cu) ps∧U.grownBy Z none):=by
     have g:w3.grownBy Z none:=by rw[hZ];exact World.grownBy_alloc _ _ none
     exact⟨by rw[hZ];exact ai _ _ _,aA ou g,aa g3 g⟩
    clear C2 ou g3 cl0 t0
    go_upto_region 8 with fail
    rw[←hZ]
    obtain⟨nc,hnc⟩:∃ nc,nc=w3.heap.size:=⟨_,rfl⟩
    rw[←hnc] at HZ ⊢
    clear hZ hnc
    go_wp2_with fail
    obtain⟨D,hD⟩:∃ D,D=efS R (au R F) kk i:=⟨_,rfl⟩
    have HD:Hid (D=efS R (au R F) kk i∧D.length≤64):=⟨hD,Dh (by rw[hD];exact HEl.out i) Hi.out.1 HT.out.1.few⟩
    clear hD
    go_loopw [9,14] (fun v y wr=>∃ (k m:Nat) (q:Option Addr) (c:Nat),k≤ps.length∧y=.int .i64 (k:Int)∧v=.slice q m c∧Hid (m=(efI D kk ((j:Int)+1) i ps k).length∧bi wr w1.heap.size (.slice q m c) (efI D kk ((j:Int)+1) i ps k)∧w1.grownBy wr none∧CdK wr nc h (.slice pu ps.length cu)∧bx wr U.heap.size (.slice pu ps.length cu) ps∧aU wr w.heap.size (.slice (some ⟨gl,0,none⟩) R.length cl) (R.map Rw.nu))) (fun _ y _=>ps.length - (intOf y).toNat)
    case atStart=>exact⟨0,m0,q0,c0,Nat.zero_le _,rfl,rfl,by rw[re,HD.out.1];exact HQ.out.1,by rw[re,HD.out.1];exact ay.Own.grow HQ.out.2.1 HZ.out.2.2,aa HQ.out.2.2 HZ.out.2.2,HZ.out.1,HZ.out.2.1,aA HU.out.1 HZ.out.2.2⟩
    case round =>
     obtain⟨k,m,q1,c1,hk',rfl,rfl,HY⟩:=hrel
     obtain⟨Y,hY⟩:∃ Y,Y=wr:=⟨_,rfl⟩
     subst hY
     have k8:Y.cell? ⟨nc,8,none⟩=some (.slice pu ps.length cu):=(ac HY.out.2.2.2.1 8).trans rfl
     by_cases hk:k<ps.length
     ·skip
      have hkk:(k:Int)<(ps.length:Int):=Int.ofNat_lt.2 hk
      have hwm:=aK (k:=k) (Nat.le_trans (Nat.le_of_lt hk) (Nat.le_trans Hps.out.1 (by decide)))
      have HMk:Hid (ps.length - (intOf (.int .i64 ((k:Int)+1))).toNat<ps.length - (intOf (.int .i64 (k:Int))).toNat):=bF hk
      obtain⟨gp,op,cp,ep,hpt⟩:=(bx.at HY.out.2.2.2.2.1).part (Nat.lt_of_le_of_lt (Nat.zero_le _) hk)
      obtain⟨q,hq⟩:∃ q,ps[k]?=some q:=⟨_,List.getElem?_eq_getElem hk⟩
      obtain⟨p0,p1,p2,p3,p4,p5,p6,p7⟩:=hpt k q hq
      injection ep with ep ep2 ep3
      clear ep2 ep3
      subst ep
      have Hk:Hid (k<ps.length∧ps.getD k Pt.none=q):=⟨hk,by rw[List.getD_eq_getElem?_getD,hq];rfl⟩
      obtain⟨ly,hly⟩:∃ ly,ly=lay q.vb:=⟨_,rfl⟩
      have Hly:Hid (ly=lay q.vb):=hly
      have CL:∀ W,Calls Tryz.prog 164 #[.int .u8 q.vb] W fun e w'=>e=.returned (.int .i64 ly)∧w'=W:=fun W=>by rw[hly];exact rX q.vb W
      clear hk' hk hq hpt hly
      by_cases w5:q.wn=5
      ·have d5:(q.wn == 5)=true:=by rw[w5];rfl
       have H5:Hid (q.wn=5):=w5
       clear w5
       by_cases wl:ly=kk
       ·have dl:(ly == kk)=true:=by rw[wl];exact beq_self_eq_true _
        have HN:Hid (efI D kk ((j:Int)+1) i ps (k+1)=efI D kk ((j:Int)+1) i ps k++[⟨(j:Int)+1,(k:Int),q⟩]):=Dx Hk.out.2 H5.out (by rw[←Hly.out];exact wl)
        clear wl
        go_wp2_with fail
        refine(CL Y).mono ?_
        rintro e4 w4 ⟨rfl,h4⟩
        obtain rfl:Y=w4:=h4.symm
        clear CL
        obtain⟨E,hE⟩:∃ E,E=efI D kk ((j:Int)+1) i ps k:=⟨_,rfl⟩
        have HE:Hid (E=efI D kk ((j:Int)+1) i ps k∧m=E.length∧E.length≤68):=by
         exact⟨hE,by rw[hE];exact HY.out.1,BT hE HD.out.2 Hps.out.1 Hk.out.1⟩
        have HO:Hid (Y.ownsRow w1.heap.size 40 10 (.slice q1 m c1) m (sdR.cs E)):=by
         have h9:=HY.out.2.1
         unfold bi ay.Own at h9
         rw[←hE,←HE.out.2.1] at h9
         exact h9
        clear hE
        have HLn:Hid (m+1≤maxLen∧(m+1)*56≤140737488355328∧w1.heap.size≤Y.heap.size):=by
         have a:=zp HE.out.2.1 HE.out.2.2
         exact⟨a.1,a.2,HY.out.2.2.1.size⟩
        have hneL:some gl≠(Value.slice q1 m c1).ownBlock:=by obtain⟨cs9,fr9,hb9⟩:=ja HY.out.2.2.2.2.2 gl rfl;exact bE HO.out hb9 (by decide)
        have hneP:some gp≠(Value.slice q1 m c1).ownBlock:=by obtain⟨cs9,fr9,hb9⟩:=ja HY.out.2.2.2.2.1 gp rfl;exact bE HO.out hb9 (by decide)
        have hneC:some nc≠(Value.slice q1 m c1).ownBlock:=bE HO.out HY.out.2.2.2.1 (by decide)
        have hLi:=j7 HY.out.2.2.2.2.2 (j:=i) (by rw[List.length_map];exact Hi.out.1)
        obtain⟨gl',egl,cl0⟩:=hLi
        injection egl with egl
        injection egl with egl _
        subst egl
        rw[fK _ _ _ Rw.none _ Hi.out.1,Hnu.out] at cl0
        go_upto_region 12 with fail
        refine wp_region_held_drew (S:=fun w'=>Y.grownBy w' (Value.slice q1 m c1).ownBlock) (by kernel_rfl) (de _ _) (fun hHeld=>?_)
        refine QZ 0 rfl ?_
        go_frame
        refine QZ 1 rfl ?_
        go_frame
        refine QZ 2 rfl ?_
        go_frame
        refine QZ 3 rfl ?_
        go_frame
        refine QT 4 rfl (by intro w0 hSw;have cl0:=hSw.cell cl0 hneL;go_simp;try with_reducible rfl) ?_
        go_frame
        refine QZ 5 rfl ?_
        go_frame
        refine QZ 6 rfl ?_
        go_frame
        refine QT 7 rfl (by intro w0 hSw;have k8:=hSw.cell k8 hneC;go_simp;try with_reducible rfl) ?_
        go_frame
        refine QZ 8 rfl ?_
        go_frame
        refine QZ 9 rfl ?_
        go_frame
        refine QT 10 rfl (by intro w0 hSw;have p0:=hSw.cell p0 hneP;have p1:=hSw.cell p1 hneP;have p2:=hSw.cell p2 hneP;have p3:=hSw.cell p3 hneP;have p4:=hSw.cell p4 hneP;have p5:=hSw.cell p5 hneP;have p6:=hSw.cell p6 hneP;have p7:=hSw.cell p7 hneP;go_simp;try with_reducible rfl) ?_
        go_frame
        refine QZ 11 rfl ?_
        go_frame
        refine QR 12 rfl (fun K9 hK=>?_)
        go_simp
        refine hK.out _ _ (by first | exact aa (World.grownBy_alloc _ _ _) (de _ _) | exact aa (de _ _) (World.grownBy_alloc _ _ _)) (fun hHeld3=>?_)
        clear hK K9
        (try go_frame)
        have HG8:Hid (Y.grownBy ((Y.alloc (.cells (sdc ⟨(j:Int)+1,(k:Int),q⟩).toArray 40)).drew) (Value.slice q1 m c1).ownBlock):=aa (World.grownBy_alloc _ _ _) (de _ _)
        have HO8:Hid (((Y.alloc (.cells (sdc ⟨(j:Int)+1,(k:Int),q⟩).toArray 40)).drew).ownsRow w1.heap.size 40 10 (.slice q1 m c1) m (sdR.cs E)):=aA (aA HO.out (World.grownBy_alloc _ _ none)) (ag _)
        have HS8:Hid (Src ((Y.alloc (.cells (sdc ⟨(j:Int)+1,(k:Int),q⟩).toArray 40)).drew) (.slice (some ⟨Y.heap.size,0,none⟩) 1 1) 1 10 (sdc ⟨(j:Int)+1,(k:Int),q⟩)):=Src.keep (An Y _) (ag _)
        have HL8:Hid (w1.heap.size≤((Y.alloc (.cells (sdc ⟨(j:Int)+1,(k:Int),q⟩).toArray 40)).drew).heap.size):=Nat.le_trans HLn.out.2.2 (World.grownBy_alloc Y _ none).size
        refine QR 13 rfl (fun K9 hK=>?_)
        refine iQ (.tmp 72) (.tmp 84) 27 rfl w1.heap.size 40 i0 _ 10 56 Tryz.underlying27 hi hz0 hz1 hz2 rfl (by decide) (.slice q1 m c1) (m) (sdR.cs E) rfl (HO8.out) (.slice (some ⟨Y.heap.size,0,none⟩) 1 1) (1) (sdc ⟨(j:Int)+1,(k:Int),q⟩) rfl (HS8.out) (fL _) (HLn.out.1) (HLn.out.2.1) (HL8.out) ?_
        intro v' w7 o7 g7 l7
        obtain⟨w9,hw9⟩:∃ w9,w9=w7:=⟨_,rfl⟩
        subst hw9
        obtain⟨v9,hv9⟩:∃ v9,v9=v':=⟨_,rfl⟩
        subst hv9
        have HO9:Hid _:=o7
        have HG9:Hid (Y.grownBy w9 (Value.slice q1 m c1).ownBlock):=aa HG8.out g7
        clear o7 g7 l7
        refine hK.out _ _ (HG9.out) (fun hHeld3=>?_)
        clear hK K9
        (try go_frame)
        refine QZ 14 rfl ?_
        go_frame
        refine QD ?_
        have HF:Hid (m+1=(efI D kk ((j:Int)+1) i ps (k+1)).length∧bi w9 w1.heap.size v9 (efI D kk ((j:Int)+1) i ps (k+1))∧w1.grownBy w9 none∧CdK w9 nc h (.slice (some ⟨gp,op,none⟩) ps.length cu)∧bx w9 U.heap.size (.slice (some ⟨gp,op,none⟩) ps.length cu) ps∧aU w9 w.heap.size (.slice (some ⟨gl,0,none⟩) R.length cl) (R.map Rw.nu)):=by
         rw[HN.out,←HE.out.1]
         refine⟨by rw[List.length_append,←HE.out.2.1];rfl,ay.more HO9.out HE.out.2.1,am HY.out.2.2.1 HG9.out (fun y e=>(World.ownsRow.lt HO.out y e).1),?_,?_,?_⟩
         ·exact ae HG9.out HY.out.2.2.2.1 hneC
         ·exact World.ownsRow.kept HY.out.2.2.2.2.1 HG9.out (Or.inr (fun z=>hneP (by rw[←z];rfl)))
         ·exact World.ownsRow.kept HY.out.2.2.2.2.2 HG9.out (Or.inr (fun z=>hneL (by rw[←z];rfl)))
        obtain⟨pv,kv,ev9,-⟩:=cH HO9.out
        subst ev9
        clear hneL hneP hneC cl0 p0 p1 p2 p3 p4 p5 p6 p7 hHeld
        go_wp2_with fail
        go_roundw
        case rel=>exact⟨k+1,m+1,pv,kv,Hk.out.1,by first | rfl | (rw[hwm];rfl) | go_num,rfl,HF.out⟩
        case measure=>first | exact HMk.out | (rw[hwm];exact HMk.out)
       ·have dl:(ly == kk)=false:=by simpa using wl
        have HN:Hid (efI D kk ((j:Int)+1) i ps (k+1)=efI D kk ((j:Int)+1) i ps k):=BO Hk.out.2 (fun z=>wl (by rw[Hly.out];exact z.2))
        clear wl
        go_wp2_with fail
        refine(CL Y).mono ?_
        rintro e4 w4 ⟨rfl,h4⟩
        obtain rfl:Y=w4:=h4.symm
        clear CL p0 p1 p2 p3 p4 p5 p6 p7
        go_wp2_with fail
        go_roundw
        case rel=>exact⟨k+1,m,q1,c1,Hk.out.1,by first | rfl | (rw[hwm];rfl) | go_num,rfl,by rw[HN.out];exact HY.out⟩
        case measure=>first | exact HMk.out | (rw[hwm];exact HMk.out)
      ·have d5:(q.wn == 5)=false:=by simpa using w5
       have HN:Hid (efI D kk ((j:Int)+1) i ps (k+1)=efI D kk ((j:Int)+1) i ps k):=BO Hk.out.2 (fun z=>w5 z.1)
       clear w5 CL
       go_wp2_with fail
       go_roundw
       case rel=>exact⟨k+1,m,q1,c1,Hk.out.1,by first | rfl | (rw[hwm];rfl) | go_num,rfl,by rw[HN.out];exact HY.out⟩
       case measure=>first | exact HMk.out | (rw[hwm];exact HMk.out)
     ·obtain rfl:k=ps.length:=Nat.le_antisymm hk' (Nat.le_of_not_lt hk)
      have k1:¬(ps.length:Int)<(ps.length:Int):=Int.lt_irrefl _
      clear hk' hk
      go_wp2_with fail
      go_roundw
      case rel=>exact⟨i+1,m,q1,c1,Hi.out.1,by first | rfl | (rw[hwk];rfl) | go_num,rfl,by rw[Hps.out.2,←HD.out.1];exact HY.out.1,by rw[Hps.out.2,←HD.out.1];exact HY.out.2.1,HY.out.2.2.1⟩
      case measure=>first | exact HM.out | (rw[hwk];exact HM.out)
  ·obtain rfl:i=R.length:=Nat.le_antisymm hi' (Nat.le_of_not_lt hi2)
   have i1:¬(R.length:Int)<(R.length:Int):=Int.lt_irrefl _
   have HF:Hid (bi U w.heap.size (.slice q0 m0 c0) ((dc R (au R F) kk).map Se.s)∧w.grownBy U none):=⟨aY HQ.out.2.1 H1.out.2.size,aa H1.out.2 HQ.out.2.2⟩
   clear hi' hi2 HQ
   go_wp2_with fail
   go_ret
   exact⟨_,rfl,HF.out.1,HF.out.2⟩
end Go.Proofs.YthfjgpjcepmnmaaGreat
