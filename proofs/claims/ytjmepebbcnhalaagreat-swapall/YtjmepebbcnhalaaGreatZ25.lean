import Derived.Test.YtjmepebbcnhalaaGreatZ24
namespace Go.Proofs.YtjmepebbcnhalaaGreat
set_option maxRecDepth 100000
set_option maxHeartbeats 4000000
open Go.RowKit Go.Shelf
variable {p:Pl} {gs:List Ent} {ts:List Th} {F fs:List Fe} {n ho:Int} {t:Th} {f:Fe} {w:World} {g off c:Nat} {wh:Pt} {R:List Rw} {e:Se} {cd:Int→Hd×List Pt}
def TrI (fs:List Fe):Prop:=∀ f∈fs,0≤f.tr∧f.tr<65536
def fp (p:Pl) (gs:List Ent) (ts:List Th) (F:List Fe):Bool:=p.shut && (decide (ts.length≤2048) && (bI (gs.length:Int) (atC p gs) ts F).isSome)
theorem Cm (h:p.shut=false):fp p gs ts F=false:=by unfold fp;rw[h];rfl
theorem De (h:¬ts.length≤2048):fp p gs ts F=false:=by unfold fp;rw[Qx h,Qai,Qcu]
theorem fG (h:bI (gs.length:Int) (atC p gs) ts F=none):fp p gs ts F=false:=by unfold fp;rw[h];simp
theorem Ep (hs:p.shut=true) (hl:ts.length≤2048) (h:∃ R,bI (gs.length:Int) (atC p gs) ts F=some R):fp p gs ts F=true:=by
 obtain⟨R,h⟩:=h;unfold fp;rw[hs,h,Qy hl];rfl
theorem mQ (hs:p.shut=true):atX p gs n=0↔(1≤n∧n≤(gs.length:Int)):=by
 by_cases q:nw p gs n
 ·rw[wN q];exact⟨fun _=>q.2,fun _=>rfl⟩
 ·rw[mM q];exact⟨fun z=>absurd z (by decide),fun z=>absurd ⟨hs,z⟩ q⟩
theorem Dq (h:¬(1≤t.card∧t.card≤n)):cR n t=false:=by
 unfold cR;cases q:(decide (1≤t.card) && decide (t.card≤n)) with
 | false=>rfl
 | true=>simp only[Bool.and_eq_true,decide_eq_true_eq] at q;exact absurd q h
theorem tE (h:t.owner<0∨1<t.owner):cR n t=false:=by
 unfold cR gh;rw[Qx (show ¬t.owner=0 by omega),Qx (show ¬t.owner=1 by omega)];simp
theorem sW (h:t.place<1∨5<t.place):cR n t=false:=by
 unfold cR
 rcases h with h | h
 ·rw[Qx (show ¬1≤t.place by omega)];simp
 ·rw[Qx (show ¬t.place≤5 by omega)];simp
theorem D2 (h1:1≤t.card∧t.card≤n) (h2:¬t.owner<0) (h3:¬1<t.owner) (h4:¬t.place<1) (h5:¬5<t.place):cR n t=true:=by
 unfold cR gh;simp only[Bool.and_eq_true,Bool.or_eq_true,decide_eq_true_eq];exact⟨⟨⟨⟨h1.1,h1.2⟩,by omega⟩,by omega⟩,by omega⟩
theorem Ai (h:t.stamp<1):bq t f=false:=by
 unfold bq;rw[Qx (show ¬0<t.stamp by omega)];simp
theorem qS (h:f.ho<0∨1<f.ho):bq t f=false:=by
 unfold bq gh;rw[Qx (show ¬f.ho=0 by omega),Qx (show ¬f.ho=1 by omega)];simp
theorem AP (hi:0≤f.tr∧f.tr<65536) (h:¬f.tr<256):bq t f=false:=by
 unfold bq;rw[ns _ hi.1 hi.2,Qx h];simp
theorem Am (hi:0≤f.tr∧f.tr<65536) (h1:¬t.stamp<1) (h2:¬f.ho<0) (h3:¬1<f.ho) (h:f.tr<256):bq t f=true:=by
 unfold bq gh;rw[ns _ hi.1 hi.2];simp only[Bool.and_eq_true,Bool.or_eq_true,decide_eq_true_eq];exact⟨⟨by omega,by omega⟩,h⟩
def CdK (w:World) (g:Nat) (h:Hd) (u:Value):Prop:=w.heap[g]?=some (.cells (ccs h u) 111 (0,0))
theorem eJ {n:Nat} {X:List Th} (h:thR.At w (.slice (some ⟨g,off,none⟩) n c) X) {i:Nat} {x:Th} (hx:X[i]?=some x):w.rangeAt g (off+i*11) (thc x):=by
 obtain⟨hi,e⟩:=Qh hx;obtain⟨g',off',cap,e1,r⟩:=bz h hi;injection e1 with e1 _ _;injection e1 with e1;injection e1 with ea eb;rw[ea,eb,←e];exact r
theorem jS (ok:Nat→Prop) (r:Nat) (v:Value) (p:Pl) (gs:List Ent) (vt vf:Value) (ts:List Th) (F:List Fe) (w:World) (B:RD ok w r v p gs) (A:thR.At w vt ts) (AF:feR.At w vf F) (hr:TrI F):Calls Tryz.prog 137 #[.pointer (some ⟨r,0,none⟩),vt,vf] w fun e w'=>e=.returned (.bool (fp p gs ts F))∧w.grownBy w' none:=by
 obtain⟨pt,ct,rfl⟩:=A.form;obtain⟨pf,cf,rfl⟩:=AF.form;have HB:QH (RD ok w r v p gs∧thR.At w (.slice pt ts.length ct) ts∧feR.At w (.slice pf F.length cf) F∧TrI F):=⟨B,A,AF,hr⟩
 have C1:=fW r v p w B.rj;clear B A AF hr;obtain⟨sh,hsh⟩:=Qe (p.shut);have Hsh:QH (sh=p.shut):=hsh;rw[←hsh] at C1;clear hsh;go_enter Tryz.func137,Tryz.ntmps137;go_wp2_with fail;refine C1.mono ?_;rintro e1 w1 ⟨rfl,hw1⟩;rw[hw1];clear hw1 w1 C1;cases sh with
 | false =>
  go_wp2_with fail;go_ret;exact⟨by rw[Cm Hsh.o.symm] <;> rfl,aw _ _⟩
 | true =>
  by_cases h2:ts.length≤2048
  ·have h2':decide ((2048:Int)<(ts.length:Int))=false:=Qx (by omega);have H2:QH (ts.length≤2048):=h2;clear h2;by_cases hl:ts.length=F.length
   ·have hl':((F.length:Int) != (ts.length:Int))=false:=(by rw[hl];exact bne_self_eq_false _);have HL:QH (ts.length=F.length):=hl;clear hl;go_wp2_with fail;clear hl' h2';go_loopw [7,8,9,10,11,12] (fun m i _ _ _ _ wr=>∃ (j:Nat),j≤ts.length∧i=.int .i64 (j:Int)∧m=.int .i64 ((onC ts j:Nat):Int)∧QH (TgU (gs.length:Int) (atC p gs) ts F j∧w.grownBy wr none)) (fun _ i _ _ _ _ _=>ts.length - (intOf i).toNat)
    case atStart=>exact⟨0,Q0 _,rfl,rfl,TgU.start _ _ _ _,aw _ _⟩
    case round =>
     obtain⟨j,hj',rfl,rfl,HT⟩:=hrel;obtain⟨U,hU⟩:=Qe (wr);subst hU;by_cases hj:j<ts.length
     ·have j1:(j:Int)<(ts.length:Int):=Int.ofNat_lt.2 hj;have jf:(j:Int)<(F.length:Int):=(by rw[←HL.o];exact j1);have hwk:=aR (k:=j) (Ql (Qaf hj) (Ql H2.o (by decide)));have HM:QH (ts.length - (intOf (.int .i64 ((j:Int)+1))).toNat<ts.length - (intOf (.int .i64 (j:Int))).toNat):=cj hj;obtain⟨gT,oT,cT,eT,rT⟩:=bz (HB.o.2.1.keep HT.o.2) hj;injection eT with eT eT2 eT3;clear eT2 eT3;subst eT;obtain⟨t,ht⟩:=Qe (ts[j]);rw[←ht] at rT;obtain⟨f,hf⟩:∃ f,F[j]?=some f:=⟨_,Qg (by rw[←HL.o];exact hj)⟩
      have HX:QH (ts[j]?=some t∧F[j]?=some f∧j<ts.length∧(0≤f.tr∧f.tr<65536)):=⟨by rw[ht];exact Qg hj,hf,hj,HB.o.2.2.2 f (Qm hf)⟩
      obtain⟨t0,t1,t2,t3,t4,t5,t6,t7,t8,t9,t10⟩:=aZ rT;obtain⟨V,hV⟩:=Qe (U.alloc (.cells #[.int .i64 t.card,.int .i64 t.owner,.int .u8 t.place,.int .i64 t.stamp,.int .i64 t.hurt,.int .i64 t.m0,.int .i64 t.m1,.int .i64 t.m2,.int .i64 t.m3,.int .i64 t.done,.bool t.fresh] 120));have HV:QH (ThB V U.heap.size t∧w.grownBy V none):=⟨by rw[hV];exact aj _ _ _,by rw[hV];exact am HT.o.2 _⟩
      clear hj' hj rT ht hf;go_upto_region 8 with fail;rw[←hV];obtain⟨n0,hn0⟩:=Qe (U.heap.size);rw[←hn0] at HV ⊢;clear hV hn0 t0 t1 t2 t3 t4 t5 t6 t7 t8 t9 t10;have C2:=nh ok r v p gs t.card V (HB.o.1.keep HV.o.2);unfold iq at C2;obtain⟨h,hh⟩:=Qe ((atC p gs t.card).1);obtain⟨x,hx⟩:=Qe (atX p gs t.card);have Hhx:QH (h=(atC p gs t.card).1∧x=atX p gs t.card):=⟨hh,hx⟩
      rw[←hh,←hx] at C2;unfold cv at C2;clear hh hx;obtain⟨b0,b1,b2,b3,b4,b5,b6,b7,b8,b9,b10⟩:=dD HV.o.1;go_wp2_with fail;refine C2.mono ?_;rintro e2 w2 ⟨u,rfl,ou,g2⟩;obtain⟨pu,cu,mu,rfl⟩:∃ p c m,u=.slice p m c:=(by obtain⟨p,c,e,_⟩:=bZ ou;exact⟨p,c,_,e⟩);obtain⟨Z,hZ⟩:=Qe (w2.alloc (.cells #[.string h.nm,.int .u8 h.su,.int .u8 h.kd,.int .i64 h.co,.int .i64 h.po,.int .i64 h.he,.int .u16 h.tr,.bool h.tk,.slice pu mu cu] 111))
      have HZ:QH (CdK Z w2.heap.size h (.slice pu mu cu)∧ThB Z n0 t∧w.grownBy Z none):=by
       have g:w2.grownBy Z none:=(by rw[hZ];exact QG);exact⟨by rw[hZ];exact aj _ _ _,ag g (ag g2 HV.o.1 (by simp)) (by simp),aa (aa HV.o.2 g2) g⟩
      clear C2 ou g2 b0 b1 b2 b3 b4 b5 b6 b7 b8 b9 b10;go_upto_region 9 with fail;rw[←hZ];obtain⟨nc,hnc⟩:=Qe (w2.heap.size);rw[←hnc] at HZ ⊢;clear hZ hnc;have HGE:QH (w.grownBy Z none):=HZ.o.2.2;obtain⟨b0,b1,b2,b3,-⟩:=dD HZ.o.2.1;have k2:Z.cell? ⟨nc,2,none⟩=some (.int .u8 h.kd):=(ae HZ.o.1 2).trans rfl;by_cases hx:x=0
      ·have ex:(x != 0)=false:=(by rw[hx];rfl);have HC:QH (1≤t.card∧t.card≤(gs.length:Int)):=(mQ Hsh.o.symm).1 (by rw[←Hhx.o.2];exact hx);by_cases o1:t.owner<0
       ·have d1:decide (t.owner<0)=true:=Qy o1;have HN:QH (fp p gs ts F=false):=fG (oR HX.o.1 (tE (Or.inl o1)));clear o1 hx;go_wp2_with fail;go_ret;exact⟨by rw[HN.o] <;> rfl,HGE.o⟩
       ·have d1:decide (t.owner<0)=false:=Qx o1;by_cases o2:1<t.owner
        ·have d2:decide (1<t.owner)=true:=Qy o2;have HN:QH (fp p gs ts F=false):=fG (oR HX.o.1 (tE (Or.inr o2)));clear o1 o2 hx;go_wp2_with fail;go_ret;exact⟨by rw[HN.o] <;> rfl,HGE.o⟩
        ·have d2:decide (1<t.owner)=false:=Qx o2;by_cases o3:t.place<1
         ·have d3:decide (t.place<1)=true:=Qy o3;have HN:QH (fp p gs ts F=false):=fG (oR HX.o.1 (sW (Or.inl o3)));clear o1 o2 o3 hx;go_wp2_with fail;go_ret;exact⟨by rw[HN.o] <;> rfl,HGE.o⟩
         ·have d3:decide (t.place<1)=false:=Qx o3;by_cases o4:5<t.place
          ·have d4:decide (5<t.place)=true:=Qy o4;have HN:QH (fp p gs ts F=false):=fG (oR HX.o.1 (sW (Or.inr o4)));clear o1 o2 o3 o4 hx;go_wp2_with fail;go_ret;exact⟨by rw[HN.o] <;> rfl,HGE.o⟩
          ·have d4:decide (5<t.place)=false:=Qx o4;have HMb:QH (cR (gs.length:Int) t=true):=D2 HC.o o1 o2 o3 o4;clear o1 o2 o3 o4 hx;by_cases h4:t.place=4
           ·have e4:(t.place != 4)=false:=(by rw[h4];rfl);have HP:QH (t.place=4):=h4;clear h4;obtain⟨m,hm⟩:=Qe (onC ts j);have Hm:QH (m=onC ts j):=hm;have hm16:m≤16:=(by rw[hm];exact HT.o.1.few);rw[←hm];have hwm:wrap64 ((m:Int)+1)=(m:Int)+1:=aR (Ql hm16 (by decide));clear hm;by_cases q1:(16:Int)<(m:Int)+1
            ·have c1:decide ((16:Int)<(m:Int)+1)=true:=Qy q1;have HN:QH (fp p gs ts F=false):=fG (Fs (i:=j+1) (by rw[wE HX.o.1 HP.o,←Hm.o];omega));clear q1 hm16;go_wp2_with fail;go_ret;exact⟨by rw[HN.o] <;> rfl,HGE.o⟩
            ·have c1:decide ((16:Int)<(m:Int)+1)=false:=Qx q1;have Hfew:QH (onC ts (j+1)≤16):=(by show _≤_;rw[wE HX.o.1 HP.o,←Hm.o];omega);clear q1 hm16;by_cases q2:h.kd=2
             ·have c2:(h.kd == 2)=true:=(by rw[q2];rfl);have HN:QH (fp p gs ts F=false):=fG (G9 HX.o.1 HX.o.2.1 HP.o (by rw[←Hhx.o.1];exact q2));clear q2;go_wp2_with fail;go_ret;exact⟨by rw[HN.o] <;> rfl,HGE.o⟩
             ·have c2:(h.kd == 2)=false:=(by simpa using q2);have Hk:QH ((atC p gs t.card).1.kd≠2):=(by show _≠_;rw[←Hhx.o.1];exact q2);clear q2;by_cases q3:t.stamp<1
              ·have c3:decide (t.stamp<1)=true:=Qy q3;have HN:QH (fp p gs ts F=false):=fG (nd HX.o.1 HX.o.2.1 HP.o (Ai q3));clear q3;go_wp2_with fail;go_ret;exact⟨by rw[HN.o] <;> rfl,HGE.o⟩
              ·have c3:decide (t.stamp<1)=false:=Qx q3;obtain⟨gF,oF,cF,eF,rF⟩:=dh (HB.o.2.2.1.keep HGE.o) (show j<F.length by rw[←HL.o];exact HX.o.2.2.1);injection eF with eF eF2 eF3;clear eF2 eF3;subst eF;rw[(Qh HX.o.2.1).2] at rF;obtain⟨f0,-,f2,-⟩:=bP rF;clear rF;by_cases q4:f.ho<0
               ·have c4:decide (f.ho<0)=true:=Qy q4;have HN:QH (fp p gs ts F=false):=fG (nd HX.o.1 HX.o.2.1 HP.o (qS (Or.inl q4)));clear q3 q4;go_wp2_with fail;go_ret;exact⟨by rw[HN.o] <;> rfl,HGE.o⟩
               ·have c4:decide (f.ho<0)=false:=Qx q4;by_cases q5:1<f.ho
                ·have c5:decide (1<f.ho)=true:=Qy q5;have HN:QH (fp p gs ts F=false):=fG (nd HX.o.1 HX.o.2.1 HP.o (qS (Or.inr q5)));clear q3 q4 q5;go_wp2_with fail;go_ret;exact⟨by rw[HN.o] <;> rfl,HGE.o⟩
                ·have c5:decide (1<f.ho)=false:=Qx q5;have C3:=ic f.tr Z;by_cases q6:f.tr<256
                 ·rw[Qy q6] at C3;have HLi:QH (bq t f=true):=Am HX.o.2.2.2 q3 q4 q5 q6;clear q3 q4 q5 q6;go_wp2_with fail;refine C3.mono ?_;rintro e3 w3 ⟨rfl,hw3⟩;rw[hw3];clear hw3 w3 C3;go_wp2_with fail;clear f0 f2 k2 c1 c2 c3 c4 c5 d1 d2 d3 d4 ex e4;go_loopw [12] (fun y wr=>∃ (k:Nat),k≤j∧y=.int .i64 (k:Int)∧QH ((∀ (l:Nat) s,l<k→ts[l]?=some s→s.place=4→s.stamp≠t.stamp)∧Z.grownBy wr none)) (fun y _=>j - (intOf y).toNat)
                  case atStart=>exact⟨0,Q0 _,rfl,fun _ _ q=>absurd q (Qbh _),aw _ _⟩
                  case round =>
                   obtain⟨k,hk',rfl,HK⟩:=hrel;obtain⟨Q,hQ⟩:=Qe (wr);subst hQ;by_cases hk:k<j
                   ·have k1:(k:Int)<(j:Int):=Int.ofNat_lt.2 hk;have kt:(k:Int)<(ts.length:Int):=(by omega);have hwq:=aR (k:=k) (Ql (Qaf hk) (Ql (Qaf HX.o.2.2.1) (Ql H2.o (by decide))));have HMk:QH (j - (intOf (.int .i64 ((k:Int)+1))).toNat<j - (intOf (.int .i64 (k:Int))).toNat):=cj hk;have hkt:k<ts.length:=Qdi hk HX.o.2.2.1;obtain⟨s,hs⟩:∃ s,ts[k]?=some s:=⟨_,Qg hkt⟩
                    have rS:=eJ (HB.o.2.1.keep (aa HGE.o HK.o.2)) hs;obtain⟨-,-,s2,s3,-⟩:=aZ rS;have b3':=HK.o.2.cell b3 (by simp);have Hs:QH (ts[k]?=some s∧k<j):=⟨hs,hk⟩
                    clear hk hk' rS hs hkt;by_cases p1:s.place=4
                    ·have e1:(s.place == 4)=true:=(by rw[p1];rfl);by_cases p2:s.stamp=t.stamp
                     ·have e2:(s.stamp == t.stamp)=true:=(by rw[p2];exact beq_self_eq_true _);have HN:QH (fp p gs ts F=false):=fG (FS Hs.o.2 Hs.o.1 HX.o.1 p1 HP.o p2);have HGQ:QH (w.grownBy Q none):=aa HGE.o HK.o.2;rw[p1] at s2;rw[p2] at s3;clear p1 p2 e1 e2;go_upto_region 18 with fail;go_quiet (fail);go_wp2_with fail;go_ret;exact⟨by rw[HN.o] <;> rfl,aa HGQ.o (aA _ _ _)⟩
                     ·have e2:(s.stamp == t.stamp)=false:=by simpa using p2
                      have HK2:QH (∀ (l:Nat) s',l<k+1→ts[l]?=some s'→s'.place=4→s'.stamp≠t.stamp):=fun l s' hl hs' h4'=>by
                       by_cases q:l=k
                       ·subst q;rw[Hs.o.1] at hs';cases hs';exact p2
                       ·exact HK.o.1 l s' (by omega) hs' h4'
                      rw[p1] at s2;clear p1 p2 e1;go_upto_region 18 with fail;go_quiet (fail);clear s2 s3 e2 b3';go_wp2_with fail;go_roundw
                      case rel=>exact⟨k+1,Hs.o.2,by first | rfl | (rw[hwq];rfl) | go_num,HK2.o,aa HK.o.2 (aA _ _ _)⟩
                      case measure=>first | exact HMk.o | (rw[hwq];exact HMk.o)
                    ·have e1:(s.place == 4)=false:=by simpa using p1
                     have HK2:QH (∀ (l:Nat) s',l<k+1→ts[l]?=some s'→s'.place=4→s'.stamp≠t.stamp):=fun l s' hl hs' h4'=>by
                      by_cases q:l=k
                      ·subst q;rw[Hs.o.1] at hs';cases hs';exact absurd h4' p1
                      ·exact HK.o.1 l s' (by omega) hs' h4'
                     clear p1;go_upto_region 18 with fail;go_quiet (fail);clear s2 s3 e1 b3';go_wp2_with fail;go_roundw
                     case rel=>exact⟨k+1,Hs.o.2,by first | rfl | (rw[hwq];rfl) | go_num,HK2.o,aa HK.o.2 (aA _ _ _)⟩
                     case measure=>first | exact HMk.o | (rw[hwq];exact HMk.o)
                   ·obtain rfl:k=j:=Qag hk' (Qac hk);have k1:¬(k:Int)<(k:Int):=Qb3 _;have HF:QH (TgU (gs.length:Int) (atC p gs) ts F (k+1)∧w.grownBy Q none∧k<ts.length∧onC ts (k+1)=m+1):=⟨HT.o.1.on HX.o.1 HX.o.2.1 HMb.o HLi.o Hk.o Hfew.o HK.o.1,aa HGE.o HK.o.2,HX.o.2.2.1,by rw[wE HX.o.1 HP.o,←Hm.o]⟩
                    clear hk hk';go_wp2_with fail;go_roundw
                    case rel=>exact⟨k+1,HF.o.2.2.1,by first | rfl | (rw[hwk];rfl) | go_num,by rw[HF.o.2.2.2];first | rfl | (rw[hwm];rfl) | (simp[hwm]),HF.o.1,HF.o.2.1⟩
                    case measure=>first | exact HM.o | (rw[hwk];exact HM.o)
                 ·rw[Qx q6] at C3;have HN:QH (fp p gs ts F=false):=fG (nd HX.o.1 HX.o.2.1 HP.o (AP HX.o.2.2.2 q6));clear q3 q4 q5 q6;go_wp2_with fail;refine C3.mono ?_;rintro e3 w3 ⟨rfl,hw3⟩;rw[hw3];clear hw3 w3 C3;go_wp2_with fail;go_ret;exact⟨by rw[HN.o] <;> rfl,HGE.o⟩
           ·have e4:(t.place != 4)=true:=(by simpa using h4);have HF:QH (TgU (gs.length:Int) (atC p gs) ts F (j+1)∧onC ts (j+1)=onC ts j):=⟨HT.o.1.off HX.o.1 h4 HMb.o,yV HX.o.1 h4⟩
            clear h4;go_wp2_with fail;go_roundw
            case rel=>exact⟨j+1,HX.o.2.2.1,by first | rfl | (rw[hwk];rfl) | go_num,by rw[HF.o.2],HF.o.1,HGE.o⟩
            case measure=>first | exact HM.o | (rw[hwk];exact HM.o)
      ·have ex:(x != 0)=true:=(by simpa using hx);have HN:QH (fp p gs ts F=false):=fG (oR HX.o.1 (Dq fun q=>hx (by rw[Hhx.o.2];exact(mQ Hsh.o.symm).2 q)));clear hx;go_wp2_with fail;go_ret;exact⟨by rw[HN.o] <;> rfl,HGE.o⟩
     ·obtain rfl:j=ts.length:=Qag hj' (Qac hj);have j1:¬(ts.length:Int)<(ts.length:Int):=Qb3 _;have HY:QH (fp p gs ts F=true∧w.grownBy U none):=⟨Ep Hsh.o.symm H2.o (HT.o.1.done HL.o),HT.o.2⟩
      clear hj hj' HT;go_wp2_with fail;go_ret;exact⟨by rw[HY.o.1] <;> rfl,HY.o.2⟩
   ·have hl':((F.length:Int) != (ts.length:Int))=true:=(by rw[bne_iff_ne];omega);have HN:QH (fp p gs ts F=false):=fG (El hl);clear hl;go_wp2_with fail;go_ret;exact⟨by rw[HN.o] <;> rfl,aw _ _⟩
  ·have h2':decide ((2048:Int)<(ts.length:Int))=true:=Qy (by omega);have HN:QH (fp p gs ts F=false):=De h2;clear h2;go_wp2_with fail;go_ret;exact⟨by rw[HN.o] <;> rfl,aw _ _⟩
def pfR (p:Pl) (gs:List Ent) (t:Th):Fe:=ptF (atC p gs t.card).1 (atX p gs t.card) t
def ptR (p:Pl) (gs:List Ent) (t:Th):Int:=ptE (atX p gs t.card) t
def RgF (f:Fe):Prop:=(0≤f.tr∧f.tr<65536)∧InI f.po∧InI f.he
def RgL (F:List Fe):Prop:=∀ f∈F,RgF f
def RgC (cd:Int→Hd×List Pt):Prop:=∀ c,((0≤(cd c).1.tr∧(cd c).1.tr<65536)∧InI (cd c).1.po∧InI (cd c).1.he)∧∀ q∈(cd c).2,InI q.ct
theorem qZ:InI 0:=by unfold InI;omega
theorem RgF.zero:RgF Fe.none:=⟨by unfold Fe.none;decide,qZ,qZ⟩
theorem RgL.tr (h:RgL F):TrI F:=fun f hf=>(h f hf).1
theorem RgL.get (h:RgL F) (i:Nat):RgF (F.getD i Fe.none):=by
 rw[Qa2];cases e:F[i]? with
 | none=>exact RgF.zero
 | some f=>exact h f (Qm e)
theorem Ic (a b:Int):0≤bits .or .u16 a b∧bits .or .u16 a b<65536:=by
 rw[yR];have:=(bv a ||| bv b).isLt;omega
theorem Fa (a b:Int):0≤bits .andNot .u16 a b∧bits .andNot .u16 a b<65536:=by
 rw[jm];have:=(bv a &&& ~~~bv b).isLt;omega
theorem Fj (hf:RgF f) (hc:InI wh.ct):RgF (ix f wh ho):=by
 obtain⟨h1,h2,h3⟩:=hf;unfold ix;split
 ·exact⟨h1,h2,h3⟩
 ·split
  ·exact⟨h1,h2,h3⟩
  ·split
   ·exact⟨Ic _ _,h2,h3⟩
   ·split
    ·exact⟨Fa _ _,h2,h3⟩
    ·split
     ·exact⟨h1,hc,hc⟩
     ·split
      ·exact⟨h1,kZ _,kZ _⟩
      ·exact⟨h1,h2,h3⟩
theorem Ce (h:RgL F) (hc:InI e.s.wh.ct):RgL (bK R F e):=fun f hf=>by
 unfold bK at hf;obtain⟨i,_,rfl⟩:=List.mem_map.1 hf;unfold jI;split
 ·exact Fj (h.get i) hc
 ·exact h.get i
theorem Bn {R:List Rw}:∀ (n:Nat) (F:List Fe) (L A:List Se),RgL F→(∀ e∈L,InI e.s.wh.ct)→RgL (uX R n F L A).1
 | 0,F,L,A,h,_=>h
 | n+1,F,L,A,h,q=>by
  unfold uX;split
  ·exact h
  ·refine Bn n _ _ _ (Ce h ?_) fun e he=>q e (List.mem_of_mem_eraseIdx he);rw[Qa2];cases e:L[eO R F L]? with
   | none=>exact qZ
   | some x=>exact q x (Qm e)
theorem DP {fs:List Fe} {R:List Rw} {F:List Fe} (h:RgL fs) (hF:RgL F):∀ m,RgL (sI fs R F m)
 | 0=>h
 | m+1=>fun f hf=>by
  rw[lr] at hf
  rcases Qcf hf with q | q
  ·exact DP h hF m f q
  ·rw[q];exact hF.get m
theorem Ec (h:RgL fs):RgL (ay R fs):=fun f hf=>by
 unfold ay at hf;obtain⟨r,_,rfl⟩:=List.mem_map.1 hf;exact h.get _
theorem ED (hT:Tab n cd ts fs R) (hc:RgC cd) (h:RgL fs) (k:Int):RgL (xM R fs k):=by
 unfold xM jZ;refine DP h (Bn _ _ _ _ (Ec h) fun e he=>?_) _;obtain⟨h1,_,j,h2,_,h3,_⟩:=jL he;obtain⟨i,t,ht,_,e1⟩:=hT.row (Qab h1);rw[h3,aG h1,e1,Qa2];cases e2:(cd t.card).2[j]? with
 | none=>exact qZ
 | some q=>exact(hc t.card).2 q (Qm e2)
theorem yC {n:Int} {cd:Int→Hd×List Pt} {ts:List Th} {fs:List Fe} {R:List Rw} (hT:Tab n cd ts fs R) (hc:RgC cd) (h:RgL fs):∀ k,RgL (clF R fs k)
 | 0=>h
 | k+1=>ED (hT.cl k) hc (yC hT hc h k) _
theorem RgC.of (h:∀ e∈gs,(e.h.with e.ps).wf):RgC (atC p gs):=fun c=>by
 have z:((0≤(Hd.none,([]:List Pt)).1.tr∧(Hd.none,([]:List Pt)).1.tr<65536)∧InI (Hd.none,([]:List Pt)).1.po∧InI (Hd.none,([]:List Pt)).1.he)∧∀ q∈(Hd.none,([]:List Pt)).2,InI q.ct:=⟨⟨by unfold Hd.none;decide,qZ,qZ⟩,fun q hq=>by cases hq⟩
 unfold atC;split
 ·split
  ·rename_i e he;have q:=h e (Qm he);have h1:0≤e.h.tr∧e.h.tr≤65535:=q.tr;exact⟨⟨⟨h1.1,by show e.h.tr<65536;omega⟩,q.po,q.he⟩,fun x hx=>(q.ps x hx).ct⟩
  ·exact z
 ·exact z
theorem Iv (h:RgC (atC p gs)) (t:Th):RgF (pfR p gs t):=by
 unfold pfR ptF;split
 ·exact(h t.card).1
 ·exact RgF.zero
theorem sC (h:RgC (atC p gs)) (ts:List Th):RgL (dR (pfR p gs) ts):=fun f hf=>by
 unfold dR at hf;obtain⟨t,_,rfl⟩:=List.mem_map.1 hf;unfold xH;split
 ·exact Iv h t
 ·exact RgF.zero
theorem Fg (hs:p.shut=true) (ht:t∈ts) (h:¬ptR p gs t=0):bI (gs.length:Int) (atC p gs) ts fs=none:=by
 cases e:bI (gs.length:Int) (atC p gs) ts fs with
 | none=>rfl
 | some R =>
  have hT:=Tab.of e;obtain⟨j,hj⟩:=Qcy ht;have hl:j<fs.length:=by rw[←hT.len];exact(Qh hj).1
  have hm:=(hT.mays hj (Qg hl)).1;refine absurd ?_ h;unfold cR gh at hm;simp only[Bool.and_eq_true,Bool.or_eq_true,decide_eq_true_eq] at hm;unfold ptR ptE;rw[if_pos ((mQ hs).2 ⟨hm.1.1.1.1,hm.1.1.1.2⟩)];unfold qK;rw[if_pos];simp only[Bool.or_eq_true,decide_eq_true_eq];exact hm.1.1.2
