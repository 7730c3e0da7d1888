import Derived.Test.YtjmepebbcnhalaaGreatV45
namespace Go.Proofs.YtjmepebbcnhalaaGreat
set_option maxRecDepth 100000
set_option maxHeartbeats 4000000
open Go.RowKit Go.Shelf
variable {w w':World} {B base b j:Nat} {bp:Option Addr} {vt vp vf v:Value} {k r n x:Int} {fs X:List Fe} {xs:List Value} {cd:Int→Hd×List Pt} {ts:List Th} {pf:Th→Fe} {mf:Fe→Th→Fe} {me:Th→Int} {R:List Rw} {P:Program} {Q:Exit→Act→World→Prop}
theorem ClS.block {w0:World} {gk gf gs:Nat} {n:Nat} (h:ClS w0 w B gk gf gs bp vt vp k vf fs) (o:w.ownsRow base 64 10 v n xs) (g:w.grownBy w' v.ownBlock) (hb:w0.heap.size≤base):ClS w0 w' B gk gf gs bp vt vp k vf fs:=⟨⟨ag g h.cl.kb (dv o h.cl.kb (by decide)),ag g h.cl.fb (dv o h.cl.fb (by decide)),ag g h.cl.sb (dv o h.cl.sb (by decide))⟩,bK h.fo o (by decide) g,ar h.gr g (fun x e=>Ql hb (World.ownsRow.lt o x e).1),h.hk,h.hf⟩
theorem VIn.few4 {bv:Value} (I:VIn w bv vt r n cd ts pf mf me) (hr:r=0):∀ c,(cd c).2.length≤4:=((I.li w (.slice none 0 0) [] (ay _ _) (az.At.nil _ _) (by decide)).book hr).1.few
theorem qM (h:Tab n cd ts fs R) (hc:∀ c,(cd c).2.length≤4) (k:Nat):(apK R fs k).length≤64:=by
 unfold apK
 rw[sw]
 exact(h.cl k).effs hc _ _
theorem oo {n:Int} {cd:Int→Hd×List Pt} {ts:List Th} {fs:List Fe} {R:List Rw} (h:Tab n cd ts fs R) (hc:∀ c,(cd c).2.length≤4):∀ k,(stU R fs k).length≤64*k
 | 0=>Qj _
 | k+1=>by
  show (stU R fs k++apK R fs k).length≤_
  rw[Qa]
  have:=oo h hc k
  have:=qM h hc k
  omega
theorem Ba (h:vkE r n cd ts (aR pf (ts.take 2048)) me=0) (hT:Tab n cd ts (aR pf ts) R):vSt r n cd ts pf me=stU R (aR pf ts) 5:=by
 unfold vSt
 rw[if_pos h,hT.tab]
theorem Ay (h:vkE r n cd ts (aR pf (ts.take 2048)) me≠0):vSt r n cd ts pf me=[]:=if_neg h
def vS (w:World) (r n:Int) (cd:Int→Hd×List Pt) (ts:List Th) (pf:Th→Fe) (me:Th→Int) (e:Ending) (w':World):Prop:=∃ v,e=.returned (.tuple #[v,.int .i64 (vkE r n cd ts (aR pf (ts.take 2048)) me)])∧w.grownBy w' none∧bF w' w.heap.size v ((vSt r n cd ts pf me).map Se.s)
theorem xj {a:Nat} (h1:a≤320) (h2:b≤64):a+b≤maxLen∧(a+b)*56≤140737488355328:=by unfold maxLen;omega
theorem AP {A B:List Sd} (h:w.ownsRow base 64 10 v (A.length+B.length) (sdR.cs A++sdR.cs B)):bF w base v (A++B):=by
 unfold bF az.Own
 rw[Qa,sdR.app]
 exact h
theorem vZ (bp:Option Addr) (vt:Value) (r n:Int) (cd:Int→Hd×List Pt) (ts:List Th) (pf:Th→Fe) (mf:Fe→Th→Fe) (me:Th→Int) (w:World) (I:VIn w (.pointer bp) vt r n cd ts pf mf me):Calls Tryz.prog 31 #[.pointer bp,vt] w (vS w r n cd ts pf me):=by
 have HLk:=kX bp vt r n cd ts pf mf me w I
 unfold iX at HLk
 obtain⟨pt,ct,rfl,hcap⟩:=I.cap
 have HI:Hid (VIn w (.pointer bp) (.slice pt ts.length ct) r n cd ts pf mf me):=I
 clear I hcap
 go_enter Tryz.func31,Tryz.ntmps31
 go_wp2_with fail
 refine HLk.mono ?_
 rintro e2 w2 ⟨bq,p1,m1,c1,p2,m2,c2,rfl,g2,h2⟩
 obtain⟨q,hq⟩:=Qe (vkE r n cd ts (aR pf (ts.take 2048)) me)
 rw[←hq] at h2 ⊢
 have Hq:Hid (q=vkE r n cd ts (aR pf (ts.take 2048)) me):=hq
 clear HLk hq
 obtain⟨W3,hW3⟩:=Qe (w2.alloc (.cells #[.pointer bq,.slice p1 m1 c1,.slice p2 m2 c2] 159))
 have HG3:Hid (w.grownBy W3 none):=by rw[hW3];exact al g2 _
 have HS3:Hid (ScB W3 w2.heap.size bq (.slice p1 m1 c1) (.slice p2 m2 c2)):=by rw[hW3];exact ak _ _ _
 have H2:Hid (q=0→bq=bp∧Value.slice pt ts.length ct=.slice p1 m1 c1∧aQ W3 w.heap.size (.slice p2 m2 c2) (aR pf ts)):=fun z=>by
  obtain⟨a,b,c⟩:=h2 z
  exact⟨a,b,aw c (by rw[hW3];exact QG)⟩
 clear g2 h2
 go_upto_region 2 with fail
 rw[←hW3]
 clear hW3
 obtain⟨ns,hns⟩:=Qe (w2.heap.size)
 simp only[←hns] at HS3 ⊢
 clear hns
 by_cases hq0:q=0
 ·have e1:(q != 0)=false:=by simpa using hq0
  have hv0:vkE r n cd ts (aR pf (ts.take 2048)) me=0:=Hq.out.symm.trans hq0
  obtain⟨hr0,⟨R,hR⟩,-⟩:=rD hv0
  have hts:ts.length≤2048:=HI.out.few hr0
  rw[List.take_of_length_le hts] at hR
  obtain⟨eb,ev,hO⟩:=H2.out hq0
  subst eb
  injection ev with ev1 ev2 ev3
  subst ev1
  subst ev3
  rw[←ev2] at HS3 ⊢
  obtain⟨L,hL⟩:=Qe (ts.length)
  have hm2:m2=ts.length:=by obtain⟨a,b,e⟩:=az.Own.form hO;injection e with _ e _;rw[e,eQ]
  obtain⟨F,hF⟩:=Qe (aR pf ts)
  have HF:Hid (F=aR pf ts∧F.length=ts.length):=⟨hF,by rw[hF,eQ]⟩
  rw[←hF] at hO hR
  rw[hm2] at hO HS3 ⊢
  have HO:Hid (aQ W3 w.heap.size (.slice p2 ts.length c2) F):=hO
  have HT:Hid (Tab n cd ts F R∧r=0∧ts.length≤2048∧vkE r n cd ts (aR pf (ts.take 2048)) me=0):=⟨hR,hr0,hts,hv0⟩
  clear H2 hq0 hv0 hR hr0 hts hm2 hO hF ev2 m1 m2 hL L
  obtain⟨s0,s1,s2⟩:=eo HS3.out
  have C4:=iy bq pt p2 ts.length ct ts.length c2 W3
  go_wp2_with fail
  refine C4.mono ?_
  rintro e4 w4 ⟨gk,gf,gs,rfl,h4,g4,hk4,hf4⟩
  have HG4:Hid (W3.grownBy w4 none):=g4
  have HC0:Hid (ClS w w4 w.heap.size gk gf gs bq (.slice pt ts.length ct) (.slice p2 ts.length c2) ((0:Nat):Int) (.slice p2 ts.length c2) (clF R F 0)):=⟨h4,aw HO.out g4,ae HG3.out g4,Ql HG3.out.size hk4,Ql HG3.out.size hf4⟩
  clear C4 h4 g4 hk4 hf4 s0 s1 s2 e1
  unfold clV
  obtain⟨i0,hi,hz0,hz1,hz2⟩:=info_parts Tryz.linfoD
  go_wp2_with fail
  go_loopw [8,21] (fun x y wr=>∃ (j:Nat) (p:Option Addr) (c B:Nat) (ps:Option Addr) (nS cS:Nat),j≤5∧y=.int .i64 (j:Int)∧x=.slice ps nS cS∧Hid (ClS w wr B gk gf gs bq (.slice pt ts.length ct) (.slice p2 ts.length c2) (j:Int) (.slice p ts.length c) (clF R F j))∧Hid (bF wr w.heap.size (.slice ps nS cS) ((stU R F j).map Se.s))) (fun _ y _=>5 - (intOf y).toNat)
  case atStart=>exact⟨0,p2,c2,w.heap.size,none,0,0,Q0 _,rfl,rfl,HC0,az.Own.nil _ _ _ _⟩
  case round =>
   obtain⟨j,p,c,B,ps,nS,cS,hj,rfl,rfl,HC,HD⟩:=hrel
   obtain⟨U,hU⟩:=Qe (wr)
   subst hU
   clear HC0
   by_cases hlt:j<5
   ·have hlf:(clF R F j).length=ts.length:=by rw[ix];exact HF.out.2
    have C5:=jA bq pt p2 ct ts.length c2 r n cd ts pf mf me w U B gk gf gs (j:Int) (.slice p ts.length c) (clF R F j) R HI.out HC.out (HT.out.1.cl j) HT.out.2.1 (by omega) (by omega)
    unfold qH at C5
    rw[hlf] at C5
    have hlt':(j:Int)<5:=by omega
    have hwk:=aK (k:=j) (by omega)
    have Hlt:Hid (j<5):=hlt
    have HM:Hid (5 - (intOf (.int .i64 ((j:Int)+1))).toNat<5 - (intOf (.int .i64 (j:Int))).toNat):=bj hlt
    have HSz:Hid (w.heap.size≤U.heap.size):=HC.out.gr.size
    have HCL:Hid (ClB U gk gf gs bq (.slice pt ts.length ct) (.slice p2 ts.length c2) (j:Int) (.slice p ts.length c)):=HC.out.cl
    obtain⟨A,hA⟩:=Qe ((stU R F j).map Se.s)
    obtain⟨E,hE⟩:=Qe ((du R (clF R F j) ((j:Int)+1)).2.map Se.s)
    have HAE:Hid ((stU R F (j+1)).map Se.s=A++E∧A.length≤320∧E.length≤64):=by
     refine⟨?_,?_,?_⟩
     ·rw[hA,hE];show (stU R F j++apK R F j).map Se.s=_;rw[List.map_append];rfl
     ·rw[hA,List.length_map];have:=oo HT.out.1 (HI.out.few4 HT.out.2.1) j;omega
     ·rw[hE,List.length_map];exact qM HT.out.1 (HI.out.few4 HT.out.2.1) j
    rw[←hE] at C5
    rw[←hA] at HD
    clear hlt hj hlf HC hA hE
    have hfl:=Tryz.fl1
    go_wp2_with (first
     | (go_at_call 156;refine C5.mono ?_;rintro e5 w5 ⟨q1,n1,d1,q2,d2,rfl,h5,hD5,-,tw5⟩;have HC5:Hid (ClS w w5 U.heap.size gk gf gs bq (.slice pt ts.length ct) (.slice p2 ts.length c2) ((j+1:Nat):Int) (.slice q2 ts.length d2) (clF R F (j+1))):=h5;have HD5:Hid (bF w5 w.heap.size (.slice ps nS cS) A):=tw5.own HCL.out HD.out (by decide) (by decide);have HS5:Hid (Src w5 (.slice q1 n1 d1) E.length 10 (sdR.cs E)):=az.At.src (az.Own.at hD5);have HL5:Hid (A.length+E.length≤maxLen∧(A.length+E.length)*56≤140737488355328):=xj HAE.out.2.1 HAE.out.2.2;have HW5:Hid (w.heap.size≤w5.heap.size):=HC5.out.gr.size;clear C5 h5 hD5 tw5)
     | (at_builtin;refine bE (by rfl) (.tmp 23) (.tmp 26) 30 rfl w.heap.size 64 i0 _ 10 56 Tryz.underlying30 hi hz0 hz1 hz2 rfl (by decide) _ A.length (sdR.cs A) rfl HD5.out _ E.length (sdR.cs E) rfl HS5.out (sdR.ones E) HL5.out.1 HL5.out.2 HW5.out ?_;intro v6 w6 o6 g6 _;have HO6:Hid (w6.ownsRow w.heap.size 64 10 v6 (A.length+E.length) (sdR.cs A++sdR.cs E)∧w5.grownBy w6 (Value.slice ps nS cS).ownBlock):=⟨o6,g6⟩;clear o6 g6))
    obtain⟨ps',cS',ev,-⟩:=br HO6.out.1
    have HC6:Hid (ClS w w6 U.heap.size gk gf gs bq (.slice pt ts.length ct) (.slice p2 ts.length c2) ((j+1:Nat):Int) (.slice q2 ts.length d2) (clF R F (j+1))):=HC5.out.block HD5.out HO6.out.2 (Qj _)
    have HD6:Hid (bF w6 w.heap.size v6 ((stU R F (j+1)).map Se.s)):=by show bF _ _ _ _;rw[HAE.out.1];exact AP HO6.out.1
    subst ev
    go_roundw
    case rel=>exact⟨j+1,q2,d2,U.heap.size,ps',A.length+E.length,cS',Hlt.out,by first | rfl | (rw[hwk];rfl) | go_num,rfl,HC6,HD6⟩
    case measure=>first | exact HM.out | (rw[hwk];exact HM.out)
   ·obtain rfl:j=5:=Nat.le_antisymm hj (Nat.le_of_not_lt hlt)
    have HX:Hid (bF U w.heap.size (.slice ps nS cS) ((vSt r n cd ts pf me).map Se.s)∧w.grownBy U none):=⟨by rw[Ba HT.out.2.2.2 (HF.out.1 ▸ HT.out.1),←HF.out.1];exact HD.out,HC.out.gr⟩
    clear hj hlt
    go_wp2_with fail
    go_ret2
    exact⟨_,by rw[HT.out.2.2.2];rfl,HX.out.2,HX.out.1⟩
 ·have e1:(q != 0)=true:=by simpa using hq0
  have HX:Hid (vSt r n cd ts pf me=[]):=Ay (fun z=>hq0 (Hq.out.trans z))
  clear hq0
  go_wp2_with fail
  go_ret2
  exact⟨_,by rw[←Hq.out];rfl,HG3.out,by rw[HX.out];exact az.Own.nil _ _ _ _⟩
theorem yF (R:List Rw) (n:Int) (fs:List Fe) (e:Se) (l:List Se):fS R n fs (e :: l)=(if n∈cJ R (aH R (aq R fs) e) then [e] else [])++fS R n (bu fs R (aG R (aq R fs) e)) l:=rfl
theorem rn (R:List Rw) (n:Int):∀ (l:List Se) (fs:List Fe),(fS R n fs l).Sublist l
 | [],_=>List.Sublist.refl _
 | e :: l,fs=>by
  unfold fS
  have:=rn R n l (bu fs R (aG R (aq R fs) e))
  split
  ·exact this.cons_cons e
  ·exact this.cons e
theorem xe (R:List Rw) (n:Int) (fs:List Fe):∀ k,(whU R n fs k).Sublist (stU R fs k)
 | 0=>List.Sublist.refl _
 | k+1=>(xe R n fs k).append (rn R n _ _)
theorem Cx {o:Oper} {a:Act} {K:Act→World→Prop} (s x:Operand) (t:TypeId)
  (ho:o.op=.call { callee:=.builtin .append,args:=#[s,x],argTypes:=#[t,t] })
  (base:Nat) (e:TypeId) (i:TypeInfo) (z:Value) (size bytes:Nat) (ht:P.underlying t=some (.slice e)) (hi:P.info? e=some i) (hz:i.zero=some z)
  (hsize:i.size=size) (hby:i.bytes=bytes) (hzs:z.cells.size=size) (hsz:0<size)
  (v:Value) (n:Nat) (xs:List Value) (hs:a.eval s=v) (hown:w.ownsRow base e size v n xs)
  (vx:Value) (m:Nat) (ys:List Value) (hx:a.eval x=vx) (hsrc:Src w vx m size ys) (h1:∀ u∈ys,u.oneCell'=true)
  (h63:n+m≤maxLen) (hbytes:(n+m)*bytes≤140737488355328) (hbase:base≤w.heap.size)
  (h:∀ v' w',w'.ownsRow base e size v' (n+m) (xs++ys)→w.grownBy w' v.ownBlock→(v'.ownBlock=v.ownBlock∨v'.ownBlock=some w.heap.size)→K (a.put o.dst v') w'):Oper.wp P o a w K Q:=by
 obtain⟨p,c,e1,hl,hc⟩:=hsrc
 subst e1
 by_cases h0:m=0
 ·subst h0
  have hy:ys=[]:=List.length_eq_zero_iff.1 (by omega)
  subst hy
  cases p with
  | none =>
   have hx2:a.eval x=.slice none 0 c:=hx
   have hrun:(Builtin.append_ #[t,t] o.type #[v,.slice none 0 c]).run P w=.ok v w:=run_append_owned_none (P:=P) (w:=w) base t o.type e i size ht hi v n xs hown
   unfold Oper.wp
   simp[execOp,ho,resolve,invoke,builtin,hs,hx2,hrun,Result.andThen]
   exact h v w (by rw[List.append_nil];exact hown) (ay _ _) (Or.inl rfl)
  | some ad =>
   exact dD s x t ho base e i z size bytes ht hi hz hsize hby hzs hsz v n xs hs hown ad 0 c [] hx (by simp) (fun j u hu=>by simp at hu) h1 h63 hbytes hbase h
 ·obtain⟨ad,e2,hcell⟩:=hc (by omega)
  subst e2
  exact dD s x t ho base e i z size bytes ht hi hz hsize hby hzs hsz v n xs hs hown ad m c ys hx hl hcell h1 h63 hbytes hbase h
theorem DC {l:List Int} (h:aV w base v l) {j:Nat} (hj:j<l.length):∃ g c,v=.slice (some ⟨g,0,none⟩) l.length c∧w.cell? ⟨g,j,none⟩=some (.int .i64 (l.getD j 0)):=by
 obtain⟨g,c,e,_,_,_,_,hc⟩:=cH h (by omega)
 refine⟨g,c,e,(hc j (by omega)).1.trans ?_⟩
 unfold ints
 rw[List.getElem?_map,Qg hj,Option.map_some,aB hj]
theorem EA {l:List Int} (hj:j<l.length) (h:l.getD j 0=x):x∈l:=by rw[←h,aB hj];exact List.getElem_mem _
theorem Dp {l:List Int} (h:∀ i,i<l.length→¬l.getD i 0=x):x ∉ l:=fun q=>by
 obtain⟨i,hi,e⟩:=List.getElem_of_mem q
 exact h i hi (by rw[aB hi];exact e)
theorem uy (v:Value) (base:Nat) (l:List Int) (x:Int) (w:World) (O:aV w base v l) (hb:l.length≤2048):Calls Tryz.prog 224 #[v,.int .i64 x] w fun e w'=>∃ i:Int,e=.returned (.int .i64 i)∧decide (0≤i)=decide (x∈l)∧w'=w:=by
 obtain⟨p,cap,rfl,_⟩:=br O
 have HO:Hid (aV w base (.slice p l.length cap) l):=O
 have Hb:Hid (l.length≤2048):=hb
 clear O hb
 go_enter Tryz.func224,Tryz.ntmps224
 go_wp2_with fail
 go_loopw [5,8] (fun _ i wr=>∃ m:Nat,m≤l.length∧i=.int .i64 (m:Int)∧wr=w∧Hid (∀ i,i<m→¬l.getD i 0=x)) (fun _ i _=>l.length - (intOf i).toNat)
 case atStart=>exact⟨0,Q0 _,rfl,rfl,fun i hi=>absurd hi (Nat.not_lt_zero _)⟩
 case round =>
  obtain⟨m,hm,rfl,rfl,HN⟩:=hrel
  by_cases hlt:m<l.length
  ·obtain⟨g,cap',e1,c1⟩:=DC HO.out hlt
   cases e1
   obtain⟨y,hy⟩:=Qe (l.getD m 0)
   rw[←hy] at c1
   have hlt':(m:Int)<l.length:=Int.ofNat_lt.2 hlt
   have hwk:=aK (k:=m) (Ql (Nat.le_of_lt hlt) (Ql Hb.out (by decide)))
   have Hlt:Hid (m<l.length):=hlt
   have HM:Hid (l.length - (intOf (.int .i64 ((m:Int)+1))).toNat<l.length - (intOf (.int .i64 (m:Int))).toNat):=bj hlt
   by_cases hxy:x=y
   ·have e:(x == y)=true:=by rw[hxy];simp
    have HX:Hid (decide (0≤(m:Int))=decide (x∈l)):=by show _=_;rw[Qy (by omega),Qy (EA hlt (hy.symm.trans hxy.symm))]
    clear hlt hm hy hxy
    go_wp2_with fail
    go_ret
    exact⟨_,rfl,HX.out,rfl⟩
   ·have e:(x == y)=false:=by simpa using hxy
    have HN2:Hid (∀ i,i<m+1→¬l.getD i 0=x):=fun i hi=>by
     by_cases q:i=m
     ·rw[q,←hy];exact fun z=>hxy z.symm
     ·exact HN.out i (by omega)
    clear hlt hm hy hxy HN
    go_wp2_with fail
    go_roundw
    case rel=>exact⟨m+1,Hlt.out,by first | rfl | (rw[hwk];rfl) | go_num,by trivial,HN2⟩
    case measure=>first | exact HM.out | (rw[hwk];exact HM.out)
  ·obtain rfl:m=l.length:=Nat.le_antisymm hm (Nat.le_of_not_lt hlt)
   have HX:Hid (decide (0≤(-1:Int))=decide (x∈l)):=by show _=_;rw[Qx (by omega),Qx (Dp HN.out)]
   clear hm hlt HN
   go_wp2_with fail
   go_ret
   exact⟨_,rfl,HX.out,rfl⟩
theorem pM (v:Value) (base:Nat) (l:List Int) (x:Int) (w:World) (O:aV w base v l) (hb:l.length≤2048):Calls Tryz.prog 157 #[v,.int .i64 x] w fun e w'=>e=.returned (.bool (decide (x∈l)))∧w'=w:=by
 have C:=uy v base l x w O hb
 obtain⟨p,cap,rfl,_⟩:=br O
 clear O hb
 go_enter Tryz.func157,Tryz.ntmps157
 go_wp2_with fail
 refine C.mono ?_
 rintro e1 w1 ⟨i,rfl,h1,rfl⟩
 have H1:Hid (decide (0≤i)=decide (x∈l)):=h1
 clear C h1
 go_wp2_with fail
 go_ret
 exact⟨by rw[←H1.out];rfl,rfl⟩
theorem rR (bp pt pp:Option Addr) (ct np cp:Nat) (ts:List Th) (x:Int) (w:World) (A:thR.At w (.slice pt ts.length ct) ts):Calls Tryz.prog 90 #[.agg #[.pointer bp,.slice pt ts.length ct,.slice pp np cp],.int .i64 x] w fun e w'=>e=.returned (.bool (onT ts x))∧w.grownBy w' none:=by
 obtain⟨W1,hW1⟩:=Qe (w.alloc (.cells #[.pointer bp,.slice pt ts.length ct,.slice pp np cp] 159))
 have HG1:Hid (w.grownBy W1 none):=by rw[hW1];exact QG
 have HS1:Hid (ScB W1 w.heap.size bp (.slice pt ts.length ct) (.slice pp np cp)):=by rw[hW1];exact ak _ _ _
 have HA:Hid (thR.At W1 (.slice pt ts.length ct) ts):=A.keep HG1.out
 have HLn:Hid (ts.length≤maxLen):=by obtain⟨_,_,_,q,_⟩:=A;exact q
 clear A
 go_enter Tryz.func90,Tryz.ntmps90
 go_upto_region 1 with fail
 rw[←hW1]
 clear hW1
 obtain⟨n0,hn0⟩:=Qe (w.heap.size)
 simp only[←hn0] at HS1 ⊢
 clear hn0
 obtain⟨s0,s1,s2⟩:=eo HS1.out
 by_cases h1:1≤x
 ·have d1:decide (1≤x)=true:=Qy h1
  by_cases h2:x≤(ts.length:Int)
  ·have d2:decide (x≤(ts.length:Int))=true:=Qy h2
   obtain⟨j,hj⟩:∃ j:Nat,x=(j:Int)+1:=⟨(x - 1).toNat,by omega⟩
   have hjl:j<ts.length:=by omega
   obtain⟨g,off,cap,ee,R⟩:=bO HA.out hjl
   cases ee
   obtain⟨t,ht⟩:=Qe (ts[j])
   rw[←ht] at R
   obtain⟨c0,c1,c2,c3,c4,c5,c6,c7,c8,c9,c10⟩:=bz R
   have hjl':(j:Int)<ts.length:=Int.ofNat_lt.2 hjl
   have hw1:wrap64 (x - 1)=(j:Int):=by have:=HLn.out;unfold maxLen at this;unfold wrap64;omega
   have hw2:IntKind.i64.wrap (x - 1)=(j:Int):=by have:=HLn.out;unfold maxLen at this;rw[IntWalk.i64_in _ (by omega)];omega
   have HX:Hid (onT ts x=(t.place == 4)):=by
    show _=_
    unfold onT
    rw[d1,d2,hj,show ((j:Int)+1 - 1).toNat=j by omega,aB hjl,←ht,Bool.true_and,Bool.true_and]
    by_cases q:t.place=4
    ·rw[Qy q,q];rfl
    ·rw[Qx q];symm;simpa using q
   clear h1 h2 hj hjl R ht c0 c1 c3 c4 c5 c6 c7 c8 c9 c10
   go_wp2_with fail
   go_ret
   exact⟨by rw[HX.out];rfl,HG1.out⟩
  ·have d2:decide (x≤(ts.length:Int))=false:=Qx h2
   have HX:Hid (onT ts x=false):=by show _=_;unfold onT;rw[d2,Bool.false_and,Bool.and_false]
   clear h1 h2
   go_wp2_with fail
   go_ret
   exact⟨by rw[HX.out];rfl,HG1.out⟩
 ·have d1:decide (1≤x)=false:=Qx h1
  have HX:Hid (onT ts x=false):=by show _=_;unfold onT;rw[d1,Bool.false_and]
  clear h1
  go_wp2_with fail
  go_ret
  exact⟨by rw[HX.out];rfl,HG1.out⟩
theorem EJ {E:List Se} (hj:j<E.length):fS R x X (E.drop j)=(if x∈cJ R (aH R (aq R X) (E.getD j Se.none)) then [E.getD j Se.none] else [])++fS R x (bu X R (aG R (aq R X) (E.getD j Se.none))) (E.drop (j+1)):=by
 rw[List.drop_eq_getElem_cons hj,yF,aB hj]
end Go.Proofs.YtjmepebbcnhalaaGreat
