import Derived.Test.YtjmepebbcnhalaaGreatZ37
namespace Go.Proofs.YtjmepebbcnhalaaGreat
open Tryz
set_option maxRecDepth 100000
set_option maxHeartbeats 4000000
open Go.RowKit
variable {ts:List Th} {t:Th} {k base size m:Nat} {w w':World} {v bv:Value} {xs:List Value} {ps:List Pt} {q:Pt} {nu n:Int} {cd:Int→Hd×List Pt}
def onB (ts:List Th) (k:Nat):List Int:=onN (ts.take k) 0
theorem EP {k:Nat} (ht:ts[k]?=some t) (h:t.place=4):onB ts (k+1)=onB ts k++[(k:Int)+1]:=by unfold onB;rw[sZ ht,if_pos h]
theorem GA (ht:ts[k]?=some t) (h:¬t.place=4):onB ts (k+1)=onB ts k:=by unfold onB;rw[sZ ht,if_neg h]
theorem FM (ts:List Th) (k:Nat):(onB ts k).length≤k:=by
 have:=ss (ts.take k) 0;rw[Qam] at this;unfold onB;omega
theorem Eh {l n:Nat} (h:l≤k) (hk:k<n) (hn:n≤2048):l+1≤maxLen∧(l+1)*8≤140737488355328:=⟨by unfold maxLen;omega,by omega⟩
theorem yb (bv vt vf vl:Value) (n:Int) (cd:Int→Hd×List Pt) (ts:List Th) (F:List Fe) (R:List Rw) (w:World) (A:thR.At w vt ts) (hT:Tab n cd ts F R) (hl:ts.length≤2048):Calls prog 227 #[dn bv vt vf vl] w fun e w'=>∃ v,e=.returned v∧bm w' w.heap.size v (R.map Rw.nu)∧w.grownBy w' none:=by
 obtain⟨i0,hi,hz0,hz1,hz2⟩:=info_parts linfo3;obtain⟨pt,ct,rfl⟩:=A.form;obtain⟨V,hV⟩:=Qe (w.alloc (.cells #[bv,.slice pt ts.length ct,vf,vl] 175))
 have HV:QH (dg V w.heap.size bv (.slice pt ts.length ct) vf vl∧w.grownBy V none∧thR.At V (.slice pt ts.length ct) ts):=by
  have gr:w.grownBy V none:=by rw[hV];exact QG
  exact⟨by rw[hV];exact aj _ _ _,gr,A.keep gr⟩
 have HA:QH (Tab n cd ts F R∧ts.length≤2048):=⟨hT,hl⟩
 unfold dn;clear A hT hl;go_enter func227,ntmps227;go_upto_region 1 with fail;rw[←hV];clear hV;obtain⟨n0,hn0⟩:=Qe (w.heap.size);rw[←hn0] at HV ⊢;have Hn0:QH (n0=w.heap.size):=hn0;clear hn0;obtain⟨c0,c1,c2,c3⟩:=bg HV.o.1;obtain⟨B,hB⟩:=Qe (V.heap.size);have HB:QH (B=V.heap.size):=hB;clear hB;go_wp2_with fail;go_loopw [3,9] (fun v i wr=>∃ (k:Nat) (p:Option Addr) (m c:Nat),k≤ts.length∧i=.int .i64 (k:Int)∧v=.slice p m c∧QH (bm wr B (.slice p m c) (onB ts k)∧m=(onB ts k).length∧V.grownBy wr none)) (fun _ i _=>ts.length - (intOf i).toNat)
 case atStart=>exact⟨0,none,0,0,Q0 _,rfl,rfl,⟨rfl,Or.inl ⟨rfl,rfl⟩⟩,rfl,aw _ _⟩
 case round =>
  obtain⟨k,p,m,c,hk',rfl,rfl,HK⟩:=hrel;obtain⟨U,hU⟩:=Qe (wr);subst hU;by_cases hi2:k<ts.length
  ·have i1:(k:Int)<(ts.length:Int):=Int.ofNat_lt.2 hi2;have hwk:=aR (k:=k) (Ql (Qaf hi2) (Ql HA.o.2 (by decide)));have HM:QH (ts.length - (intOf (.int .i64 ((k:Int)+1))).toNat<ts.length - (intOf (.int .i64 (k:Int))).toNat):=cj hi2;obtain⟨gT,oT,cT,eT,-⟩:=bz HV.o.2.2 hi2;injection eT with eT eT2 eT3;clear eT2 eT3;subst eT;obtain⟨t,hs⟩:∃ t,ts[k]?=some t:=⟨_,Qg hi2⟩
   obtain⟨s0,s1,s2,s3,s4,s5,s6,s7,s8,s9,s10⟩:=aZ (eJ (HV.o.2.2.keep HK.o.2.2) hs);have Hs:QH (ts[k]?=some t∧k<ts.length):=⟨hs,hi2⟩
   have c1':=HK.o.2.2.cell c1 (by simp);obtain⟨Y,hY⟩:=Qe (U.alloc (.cells #[.int .i64 t.card,.int .i64 t.owner,.int .u8 t.place,.int .i64 t.stamp,.int .i64 t.hurt,.int .i64 t.m0,.int .i64 t.m1,.int .i64 t.m2,.int .i64 t.m3,.int .i64 t.done,.bool t.fresh] 120))
   have HY:QH (ThB Y U.heap.size t∧U.grownBy Y none∧bm Y B (.slice p m c) (onB ts k)∧m=(onB ts k).length∧V.grownBy Y none):=by
    have gr:U.grownBy Y none:=(by rw[hY];exact QG);exact⟨by rw[hY];exact aj _ _ _,gr,aC HK.o.1 gr,HK.o.2.1,aa HK.o.2.2 gr⟩
   clear hk' hi2 hs HK;go_upto_region 5 with fail;rw[←hY];obtain⟨n2,hn2⟩:=Qe (U.heap.size);rw[←hn2] at HY ⊢;clear hY hn2 s0 s1 s2 s3 s4 s5 s6 s7 s8 s9 s10;obtain⟨-,-,s2,-⟩:=dD HY.o.1;by_cases h4:t.place=4
   ·have HN:QH (onB ts (k+1)=onB ts k++[(k:Int)+1]):=EP Hs.o.1 h4;rw[h4] at s2;have HO:QH (Y.ownsRow B 3 1 (.slice p m c) m (dt (onB ts k))):=by have:=HY.o.2.2.1;unfold bm at this;rw[←HY.o.2.2.2.1] at this;exact this
    have HLn:QH (m+1≤maxLen∧(m+1)*8≤140737488355328∧B≤(Y.alloc (.cells #[.int .i64 ((k:Int)+1)] 3)).heap.size):=by
     have:=Eh (l:=m) (by rw[HY.o.2.2.2.1];exact FM ts k) Hs.o.2 HA.o.2;exact⟨this.1,this.2,by rw[HB.o];exact(am HY.o.2.2.2.2 _).size⟩
    have HSr:QH (Src (Y.alloc (.cells #[.int .i64 ((k:Int)+1)] 3)) (.slice (some ⟨Y.heap.size,0,none⟩) 1 1) 1 1 (dt [(k:Int)+1])):=⟨_,_,rfl,rfl,fun _=>⟨_,rfl,nD Y _⟩⟩
    clear h4;go_upto_region 7 with (at_builtin;refine br (by rfl) (.tmp 17) (.tmp 20) 143 rfl B 3 i0 _ 1 8 underlying143 hi hz0 hz1 hz2 rfl (by decide) _ m (dt (onB ts k)) rfl (Qaq HO.o _) _ 1 (dt [(k:Int)+1]) rfl HSr.o (lk _) HLn.o.1 HLn.o.2.1 HLn.o.2.2 ?_;intro v9 w9 o9 g9 _;obtain⟨pv,kv,rfl,-⟩:=bZ o9;have HO9:QH _:=o9;have HG9:QH _:=g9;clear o9 g9)
    have HZ:QH (bm w9 B (.slice pv (m+1) kv) (onB ts (k+1))∧m+1=(onB ts (k+1)).length∧V.grownBy w9 none):=by
     refine⟨?_,?_,ak (aa HY.o.2.2.2.2 (Qa0 Y (.cells #[.int .i64 ((k:Int)+1)] 3) none)) HG9.o (fun y e=>by rw[←HB.o];exact(Qa5 (Qaq HO.o (.cells #[.int .i64 ((k:Int)+1)] 3)) y e).1)⟩
     ·rw[HN.o];exact lJ HO9.o HY.o.2.2.2.1
     ·rw[HN.o,Qa,←HY.o.2.2.2.1];rfl
    clear HO9 HG9 HO HSr HLn HN;go_wp2_with fail;go_roundw
    case rel=>exact⟨k+1,pv,m+1,kv,Hs.o.2,by first | rfl | (rw[hwk];rfl) | go_num,rfl,HZ.o⟩
    case measure=>first | exact HM.o | (rw[hwk];exact HM.o)
   ·have e1:(t.place == 4)=false:=(by simpa using h4);have HN:QH (onB ts (k+1)=onB ts k):=GA Hs.o.1 h4;have HZ:QH (bm Y B (.slice p m c) (onB ts (k+1))∧m=(onB ts (k+1)).length∧V.grownBy Y none):=(by rw[HN.o];exact HY.o.2.2);clear h4 HN HY;go_wp2_with fail;go_roundw
    case rel=>exact⟨k+1,p,m,c,Hs.o.2,by first | rfl | (rw[hwk];rfl) | go_num,rfl,HZ.o⟩
    case measure=>first | exact HM.o | (rw[hwk];exact HM.o)
  ·obtain rfl:k=ts.length:=Qag hk' (Qac hi2);have i1:¬(ts.length:Int)<(ts.length:Int):=Qb3 _;have hO:bm U B (.slice p m c) (onN ts 0):=(by have:=HK.o.1;unfold onB at this;rw[Qas] at this;exact this);have CS:=Ah V U n0 bv (.slice pt ts.length ct) vf vl (.slice p m c) ts (onN ts 0) HV.o.1 HV.o.2.2 HA.o.2 HK.o.2.2 (by rw[←HB.o];exact hO) (fun x hx=>by have:=Dx ts 0 x hx;omega) (by have:=ss ts 0;have:=HA.o.2;omega);have hmf:∀ (fn:Fn) (first cap:Array Value) (w:World),(Instr.makeFunc fn first cap).run prog w=.ok (.func fn first cap) w:=fun _ _ _ _=>rfl;have HQ:QH (Tab n cd ts F R∧w.heap.size≤B∧w.grownBy V none∧B=V.heap.size):=⟨HA.o.1,by rw[HB.o];exact HV.o.2.1.size,HV.o.2.1,HB.o⟩
   clear hk' hi2 HK hO;go_wp2_with (go_at_call 264;refine CS.mono ?_;rintro e7 w7 ⟨rfl,l',p7,s7,o7,g7⟩;have H7:QH (l'=R.map Rw.nu∧bm w7 V.heap.size (.slice p m c) l'∧V.grownBy w7 none):=⟨HQ.o.1.nums p7 s7,o7,g7⟩;clear p7 s7 o7 g7)
   go_ret;exact⟨_,rfl,by rw[←H7.o.1];exact bj H7.o.2.1 (by rw[←HQ.o.2.2.2];exact HQ.o.2.1),aa HQ.o.2.2.1 H7.o.2.2⟩
theorem mZ:∀ (ps:List Pt) (k:Nat) (m:Int),(plF ps k m).length≤ps.length
 | [],k,m=>by simp[plF]
 | q :: r,k,m=>by
  unfold plF;have:=mZ r (k+1) m;split
  ·simp;omega
  ·simp;omega
theorem pQ (m:Int) (q:Pt):∀ (ps:List Pt) (k:Nat),plF (ps++[q]) k m=if q.wn=m then plF ps k m++[((k+ps.length:Nat):Int)] else plF ps k m
 | [],k=>by
  show plF [q] k m=_;unfold plF;split <;> simp[plF]
 | x :: r,k=>by
  have ih:=pQ m q r (k+1);show plF (x :: (r++[q])) k m=_;unfold plF;rw[ih,show k+1+r.length=k+(x :: r).length by simp;omega];split <;> split <;> simp
theorem info3t:(prog.info? 3).map (fun i=>(i.zero,i.size,i.bytes))=some (some (.int .i64 0),1,8):=by kernel_rfl
theorem zR (l:List Int):∀ u∈dt l,u.oneCell'=true:=fun u hu=>by
 obtain⟨z,_,rfl⟩:=List.mem_map.1 hu;rfl
theorem zN (a b:List Int):dt (a++b)=dt a++dt b:=by simp[dt]
theorem Co (U:World) (x:Int):∀ j u,(dt [x])[j]?=some u→(U.alloc (.cells #[.int .i64 x] 3)).cell? ((⟨U.heap.size,0,none⟩:Addr).add j)=some u:=fun j u hu=>by
 rw[dq,Qa8,ae (aj _ _ _)];simpa [dt] using hu
def OwT (w:World) (base:Nat) (v:Value) (l:List Int):Prop:=w.ownsRow base 3 1 v l.length (dt l)
theorem OwT.nil (w:World) (base:Nat):OwT w base (.slice none 0 0) []:=⟨rfl,Or.inl ⟨rfl,rfl⟩⟩
theorem OwT.form {l:List Int} (h:OwT w base v l):∃ p c,v=.slice p l.length c:=by
 rcases h.2 with ⟨e,h0⟩ | ⟨g,cap,cur,e,_⟩
 ·exact⟨none,0,by rw[e,h0]⟩
 ·exact⟨_,_,e⟩
theorem zd {n:Nat} {l:List Int} {x:Int} (h:w'.ownsRow base 3 1 v (n+1) (dt l++dt [x])) (hn:n=l.length):OwT w' base v (l++[x]):=by
 unfold OwT;rw[Qa,Qax,zN,←hn];exact h
theorem Bi {base' e n:Nat} (h:w.ownsRow base e size v n xs) (hb:base'≤base):w.ownsRow base' e size v n xs:=by
 refine⟨h.1,?_⟩
 rcases h.2 with q | ⟨g,cap,cur,e1,hg,r⟩
 ·exact Or.inl q
 ·exact Or.inr ⟨g,cap,cur,e1,Ql hb hg,r⟩
theorem DR {k:Nat} {m:Int} (hq:ps[k]?=some q):plF (ps.take (k+1)) 0 m=if q.wn=m then plF (ps.take k) 0 m++[(k:Int)] else plF (ps.take k) 0 m:=by
 have hk:=(Qh hq).1;rw[Qat,hq,show (some q).toList=[q] from rfl,pQ,Qam,Qa8,Qbv (by omega)]
theorem zU (U:World) (o:Obj) (x:Int):∀ j u,(dt [x])[j]?=some u→((U.alloc o).alloc (.cells #[.int .i64 x] 3)).cell? ((⟨U.heap.size+1,0,none⟩:Addr).add j)=some u:=by
 have:=Co (U.alloc o) x;rwa [Qa3] at this
theorem zh (bv:Value) (t:Th) (h:Hd) (ps:List Pt) (x m:Int) (w:World) (hx:¬x=0→ps=[]) (hl:ps.length≤4) (HC:∀ X,w.grownBy X none→Calls prog 192 #[bv,thv t] X (dw h ps x X)):Calls prog 266 #[bv,thv t,.int .u8 m] w fun e w'=>∃ v,e=.returned (.tuple #[v,.int .i64 x])∧OwT w' w.heap.size v (plF ps 0 m)∧w.grownBy w' none:=by
 obtain⟨i0,hi,hz0,hz1,hz2⟩:=info_parts info3t;obtain⟨W1,hW1⟩:=Qe (w.alloc (.cells #[.int .i64 t.card,.int .i64 t.owner,.int .u8 t.place,.int .i64 t.stamp,.int .i64 t.hurt,.int .i64 t.m0,.int .i64 t.m1,.int .i64 t.m2,.int .i64 t.m3,.int .i64 t.done,.bool t.fresh] 120));have HG1:QH (w.grownBy W1 none):=by rw[hW1];exact QG
 have HT:QH (W1.heap[w.heap.size]?=some (.cells #[.int .i64 t.card,.int .i64 t.owner,.int .u8 t.place,.int .i64 t.stamp,.int .i64 t.hurt,.int .i64 t.m0,.int .i64 t.m1,.int .i64 t.m2,.int .i64 t.m3,.int .i64 t.done,.bool t.fresh] 120 (0,0))):=by rw[hW1];exact aj w _ _
 have HC1:=HC W1 HG1.o;have HX:QH (¬x=0→ps=[]):=hx;have HL:QH (ps.length≤4):=hl;unfold dw cv thv at HC1;unfold thv;clear HC hx hl;go_enter func266,ntmps266;go_upto_region 1 with fail;rw[←hW1];clear hW1;obtain⟨n0,h0⟩:=Qe (w.heap.size);simp only[←h0] at HT ⊢;have HN0:QH (n0=w.heap.size):=h0;clear h0;have x0:=ae HT.o 0;have x1:=ae HT.o 1;have x2:=ae HT.o 2;have x3:=ae HT.o 3;have x4:=ae HT.o 4;have x5:=ae HT.o 5;have x6:=ae HT.o 6;have x7:=ae HT.o 7;have x8:=ae HT.o 8;have x9:=ae HT.o 9;have x10:=ae HT.o 10;go_wp2_with fail;refine HC1.mono ?_;rintro e w2 ⟨u,rfl,o2,g2⟩;have HPs:QH (da w2 u ps):=o2.at;obtain⟨a2,k2,rfl⟩:=o2.at.form;obtain⟨W3,hW3⟩:=Qe (w2.alloc (.cells (ccs h (.slice a2 ps.length k2)) 111));have HG3:QH (w.grownBy W3 none):=by rw[hW3];exact am (aa HG1.o g2) _
 have HP3:QH (da W3 (.slice a2 ps.length k2) ps):=by rw[hW3];exact HPs.o.keep QG
 have HK:QH (W3.heap[w2.heap.size]?=some (.cells (ccs h (.slice a2 ps.length k2)) 111 (0,0))):=by rw[hW3];exact aj _ _ _
 unfold ccs at hW3;clear HC1 o2 g2 HT HG1 HPs x0 x1 x2 x3 x4 x5 x6 x7 x8 x9 x10;go_upto_region 2 with fail;rw[←hW3];clear hW3;obtain⟨kk,hk⟩:=Qe (w2.heap.size);rw[←hk] at HK ⊢;clear hk;have q8:=ae HK.o 8;simp only[ccs] at q8;by_cases hx:x=0
 case neg =>
  have hps:=HX.o hx;have HE:QH (OwT W3 n0 (.slice none 0 0) (plF ps 0 m)):=by rw[hps];exact OwT.nil _ _
  have e1:(x != 0)=true:=by simpa using hx
  clear hx hps HP3;go_wp2;go_ret2;rw[←HN0.o];exact⟨_,rfl,HE.o,HG3.o⟩
 subst hx;clear HX;obtain⟨n,hn⟩:=Qe (ps.length);have HNn:QH (n=ps.length):=hn;simp only[←hn] at HP3 HK q8 ⊢;clear hn;go_wp2_with fail;obtain⟨n3,hn3⟩:=Qe (W3.heap.size);have HN3:QH (n3=W3.heap.size):=hn3;clear hn3;go_loopw [10,11,12,25] (fun v _ _ i wr=>∃ k:Nat,k≤n∧i=.int .i64 (k:Int)∧OwT wr n3 v (plF (ps.take k) 0 m)∧W3.grownBy wr none) (fun _ _ _ i _=>n - (intOf i).toNat)
 case atStart=>exact⟨0,Q0 _,rfl,OwT.nil _ _,aw _ _⟩
 case round =>
  obtain⟨k,hk,rfl,O,G⟩:=hrel;obtain⟨U,hU⟩:=Qe (wr);subst hU;obtain⟨q,cq,rfl⟩:=O.form;have q8':=G.cell q8 (by simp);by_cases hlt:k<n
  ·obtain⟨g,off,cap,ea,R⟩:=HP3.o.part (by have:=HNn.o;omega);have ea1:a2=some ⟨g,off,none⟩:=(by injection ea);clear ea;subst ea1;obtain⟨pt,hpt⟩:∃ pt,ps[k]?=some pt:=⟨_,Qg (by have:=HNn.o;omega)⟩
   obtain⟨d0,d1,d2,d3,d4,d5,d6,d7⟩:=(R k pt hpt).keep G;have HO:QH (U.ownsRow n3 3 1 (.slice q (plF (ps.take k) 0 m).length cq) (plF (ps.take k) 0 m).length (dt (plF (ps.take k) 0 m))):=O;have HG:QH (W3.grownBy U none):=G;have HT:=DR (m:=m) hpt;have hlen:(plF (ps.take k) 0 m).length≤4:=Ql (mZ _ _ _) (by rw[Qam];have:=HL.o;omega);have hwk:wrap64 ((k:Int)+1)=(k:Int)+1:=(by have:=HL.o;have:=HNn.o;unfold wrap64;omega);obtain⟨l,hll⟩:=Qe (plF (ps.take k) 0 m);rw[←hll] at HO hlen HT ⊢;obtain⟨j,hj⟩:=Qe (l.length);rw[←hj] at HO hlen ⊢;have HN:QH (j=l.length):=hj;have HLm:QH (j+1≤maxLen∧(j+1)*8≤140737488355328):=(by show _∧_;unfold maxLen;omega);have HP:QH (k+1≤n):=hlt;have HM:QH (n - (intOf (.int .i64 ((k:Int)+1))).toNat<n - (intOf (.int .i64 (k:Int))).toNat):=aD hlt;have hlt':(k:Int)<(n:Int):=(by omega);have hk0:(0:Int)≤(k:Int):=(by omega);have HSz:QH (n3≤U.heap.size):=(by show n3≤_;rw[HN3.o];exact HG.o.size);have HOL:QH (∀ y,(Value.slice q j cq).ownBlock=some y→W3.heap.size≤y):=fun y e=>by have:=(Qa5 HO.o y e).1;rw[←HN3.o];exact this
   clear R O G hll hj hlen hk hpt;by_cases hw:pt.wn=m
   ·have HY:QH (plF (ps.take (k+1)) 0 m=l++[(k:Int)]):=(by rw[if_pos hw] at HT;exact HT);have e2:(pt.wn == m)=true:=(by simpa using hw);clear HT hw;go_wp2_with (first | (at_builtin;go_loud (refine wpList_append_own _ rfl (.tmp 34) (.tmp 36) 143 rfl n3 3 i0 _ 1 8 underlying143 hi hz0 hz1 hz2 rfl (by decide) _ j (dt l) rfl (Qaq (Qaq HO.o _) _) ⟨U.heap.size+1,0,none⟩ 1 1 (dt [(k:Int)]) rfl rfl (zU _ _ _) (zR _) HLm.o.1 (by have:=HLm.o.2;omega) (by rw[Qa3,Qa3];have:=HSz.o;omega) ?_;intro v3 w3 o3 g3 _;have HO3:QH (OwT w3 n3 v3 (l++[(k:Int)])):=zd o3 HN.o;have HG4:QH (W3.grownBy w3 none):=ak (am (am HG.o _) _) g3 (fun x e=>HOL.o x e);clear o3 g3)) | fail)
    go_roundw
    case rel=>exact⟨k+1,HP.o,by first | rfl | (rw[hwk];rfl) | go_num,by rw[HY.o];exact HO3.o,HG4.o⟩
    case measure=>first | exact HM.o | (rw[hwk];exact HM.o)
   ·have HY:QH (plF (ps.take (k+1)) 0 m=l):=(by rw[if_neg hw] at HT;exact HT);have e2:(pt.wn == m)=false:=(by simpa using hw);clear HT hw;go_wp2_with fail;go_roundw
    case rel=>exact⟨k+1,HP.o,by first | rfl | (rw[hwk];rfl) | go_num,by rw[HY.o];unfold OwT;rw[←HN.o];exact Qaq HO.o _,am HG.o _⟩
    case measure=>first | exact HM.o | (rw[hwk];exact HM.o)
  ·have hkn:k=n:=(by omega);have HF:QH (OwT U n0 (.slice q (plF (ps.take k) 0 m).length cq) (plF ps 0 m)∧w.grownBy U none):=⟨by rw[hkn,HNn.o,Qas] at O ⊢;exact Bi O (by rw[HN0.o,HN3.o];exact HG3.o.size),aa HG3.o G⟩
   have hlt':¬(k:Int)<(n:Int):=(by omega);clear O G hkn hk;go_wp2;go_ret2;rw[←HN0.o];exact⟨_,rfl,HF.o⟩
theorem pS:∀ (ps:List Pt) (i:Nat) (m x:Int),x∈plF ps i m→∃ q:Nat,x=((i+q:Nat):Int)∧q<ps.length∧(ps.getD q Pt.none).wn=m
 | [],_,_,_,h=>by cases h
 | p :: ps,i,m,x,h=>by
  unfold plF at h;have hrec:=fun z=>pS ps (i+1) m x z;split at h
  ·rename_i hw
   rcases Qbo.1 h with h | h
   ·exact⟨0,by simpa using h,by simp,by simpa using hw⟩
   ·obtain⟨q,a,b,c⟩:=hrec h;exact⟨q+1,by rw[a];congr 1;omega,by simpa using b,by simpa using c⟩
  ·obtain⟨q,a,b,c⟩:=hrec h;exact⟨q+1,by rw[a];congr 1;omega,by simpa using b,by simpa using c⟩
theorem yx (ps:List Pt) (m:Int) (h:ps.length≤4):(plF ps 0 m).length≤4:=Ql (mZ _ _ _) h
def mkS (nu:Int) (ps:List Pt) (i:Int):Sd:=⟨nu,i,ps.getD i.toNat Pt.none⟩
def swU (nu:Int) (ps:List Pt) (k:Nat):List Sd:=((plF ps 0 6).take k).map (mkS nu ps)
theorem EX (nu:Int) (ps:List Pt):swU nu ps (plF ps 0 6).length=cZ nu ps:=by unfold swU;rw[Qas];rfl
theorem Bz {x:Int} (h:(plF ps 0 6)[k]?=some x):swU nu ps (k+1)=swU nu ps k++[mkS nu ps x]:=by unfold swU;rw[Qat,h,Qbb];rfl
theorem yJ (h:k≤(plF ps 0 6).length):(swU nu ps k).length=k:=by unfold swU;rw[Qa9,Qam];omega
def jP (w:World) (bv:Value) (n:Int) (cd:Int→Hd×List Pt):Prop:=∀ X t,w.grownBy X none→1≤t.card→t.card≤n→Calls prog 192 #[bv,thv t] X (dw (cd t.card).1 (cd t.card).2 0 X)
theorem jP.keep (h:jP w bv n cd) (g:w.grownBy w' none):jP w' bv n cd:=fun X t q=>h X t (aa g q)
theorem Ee {n:Nat} (h:m=k) (hk:k<n) (hn:n≤4):m+1≤maxLen∧(m+1)*56≤140737488355328:=⟨by unfold maxLen;omega,by omega⟩
theorem rU (bv vt vf vl:Value) (n:Int) (cd:Int→Hd×List Pt) (ts:List Th) (j:Nat) (t:Th) (w:World) (A:thR.At w vt ts) (ht:ts[j]?=some t) (hl:ts.length≤2048) (C:jP w bv n cd) (h1:1≤t.card) (h2:t.card≤n) (h4:(cd t.card).2.length≤4):Calls prog 228 #[dn bv vt vf vl,.int .i64 ((j:Int)+1)] w fun e w'=>∃ v,e=.returned v∧aV w' w.heap.size v (cZ ((j:Int)+1) (cd t.card).2)∧w.grownBy w' none:=by
 obtain⟨i0,hi,hz0,hz1,hz2⟩:=info_parts linfoD;obtain⟨pt,ct,rfl⟩:=A.form;have hjl:j<ts.length:=(Qh ht).1;obtain⟨h,hh⟩:=Qe ((cd t.card).1);obtain⟨ps,hps⟩:=Qe ((cd t.card).2);have hC:∀ X,w.grownBy X none→Calls prog 192 #[bv,thv t] X (dw h ps 0 X):=fun X q=>by rw[hh,hps];exact C X t q h1 h2
 rw[←hps] at h4 ⊢;obtain⟨V,hV⟩:=Qe (w.alloc (.cells #[bv,.slice pt ts.length ct,vf,vl] 175));obtain⟨X,hX⟩:=Qe (V.alloc (.cells #[.int .i64 t.card,.int .i64 t.owner,.int .u8 t.place,.int .i64 t.stamp,.int .i64 t.hurt,.int .i64 t.m0,.int .i64 t.m1,.int .i64 t.m2,.int .i64 t.m3,.int .i64 t.done,.bool t.fresh] 120))
 have HV:QH (dg X w.heap.size bv (.slice pt ts.length ct) vf vl∧w.grownBy X none∧ThB X V.heap.size t∧w.grownBy V none):=by
  have gr:w.grownBy V none:=by rw[hV];exact QG
  have g2:V.grownBy X none:=by rw[hX];exact QG
  exact⟨ag g2 (by rw[hV];exact aj _ _ _) (by simp),aa gr g2,by rw[hX];exact aj _ _ _,gr⟩
 have z1:((j:Int))<(ts.length:Int):=Int.ofNat_lt.2 hjl;have wz:wrap64 (j:Int)=(j:Int):=by unfold wrap64;omega
 have wz2:IntKind.i64.wrap (j:Int)=(j:Int):=by rw[IntWalk.i64_in _ (by omega)]
 obtain⟨gT,oT,cT,eT,-⟩:=bz A hjl;injection eT with eT eT2 eT3;clear eT2 eT3;subst eT;obtain⟨s0,s1,s2,s3,s4,s5,s6,s7,s8,s9,s10⟩:=aZ (eJ (A.keep HV.o.2.2.2) ht);have CC:=hC X HV.o.2.1;have HCs:QH (∀ Y,X.grownBy Y none→Calls prog 266 #[bv,thv t,.int .u8 6] Y fun e w'=>∃ v,e=.returned (.tuple #[v,.int .i64 0])∧OwT w' Y.heap.size v (plF ps 0 6)∧Y.grownBy w' none):=fun Y q=>zh bv t h ps 0 6 Y (fun q=>absurd rfl q) h4 (fun Z qz=>hC Z (aa (aa HV.o.2.1 q) qz));have H4:QH (ps.length≤4):=h4;have HS:QH (dg V w.heap.size bv (.slice (some ⟨gT,oT,none⟩) ts.length ct) vf vl):=by rw[hV];exact aj _ _ _
 unfold dw cv thv at CC;unfold dn;clear A ht hl C h1 h2 h4 hC hh hps hjl;go_enter func228,ntmps228;go_upto_region 1 with fail;rw[←hV];clear hV;obtain⟨n0,hn0⟩:=Qe (w.heap.size);rw[←hn0] at HV HS ⊢;have Hn0:QH (n0=w.heap.size):=hn0;clear hn0;obtain⟨c0,c1,c2,c3⟩:=bg HS.o;go_upto_region 2 with fail;rw[←hX];obtain⟨n1,hn1⟩:=Qe (V.heap.size);rw[←hn1] at HV ⊢;clear hX hn1 s0 s1 s2 s3 s4 s5 s6 s7 s8 s9 s10 c0 c1 c2 c3;obtain⟨c0,c1,c2,c3⟩:=bg HV.o.1;obtain⟨s0,s1,s2,s3,s4,s5,s6,s7,s8,s9,s10⟩:=dD HV.o.2.2.1;go_wp2_with fail;refine CC.mono ?_;rintro e2 w2 ⟨u,rfl,o2,g2⟩;have HPs:QH (da w2 u ps):=o2.at;obtain⟨a2,k2,rfl⟩:=o2.at.form;obtain⟨Y,hY⟩:=Qe (w2.alloc (.cells (ccs h (.slice a2 ps.length k2)) 111))
 have HY:QH (Y.heap[w2.heap.size]?=some (.cells (ccs h (.slice a2 ps.length k2)) 111 (0,0))∧da Y (.slice a2 ps.length k2) ps∧X.grownBy Y none):=by
  have gr:w2.grownBy Y none:=by rw[hY];exact QG
  exact⟨by rw[hY];exact aj _ _ _,HPs.o.keep gr,aa g2 gr⟩
 unfold ccs at hY;clear CC o2 g2 HPs;go_upto_region 3 with fail;rw[←hY];obtain⟨n2,hn2⟩:=Qe (w2.heap.size);rw[←hn2] at HY ⊢;clear hY hn2;have c0:=HY.o.2.2.cell c0 (by simp);have s0:=HY.o.2.2.cell s0 (by simp);have s1:=HY.o.2.2.cell s1 (by simp);have s2:=HY.o.2.2.cell s2 (by simp);have s3:=HY.o.2.2.cell s3 (by simp);have s4:=HY.o.2.2.cell s4 (by simp);have s5:=HY.o.2.2.cell s5 (by simp);have s6:=HY.o.2.2.cell s6 (by simp);have s7:=HY.o.2.2.cell s7 (by simp);have s8:=HY.o.2.2.cell s8 (by simp);have s9:=HY.o.2.2.cell s9 (by simp);have s10:=HY.o.2.2.cell s10 (by simp);have CP:=HCs.o Y HY.o.2.2;unfold thv at CP;clear HCs;go_wp2_with fail;refine CP.mono ?_;rintro e3 w3 ⟨v3,rfl,o3,g3⟩;obtain⟨P,hP⟩:=Qe (plF ps 0 6);have HP:QH (P=plF ps 0 6):=hP;rw[←hP] at o3;obtain⟨p3,k3,rfl⟩:=o3.form;have H3:QH (OwT w3 Y.heap.size (.slice p3 P.length k3) P∧da w3 (.slice a2 ps.length k2) ps∧w3.heap[n2]?=some (.cells (ccs h (.slice a2 ps.length k2)) 111 (0,0))∧w.grownBy w3 none):=⟨o3,HY.o.2.1.keep g3,ag g3 HY.o.1 (by simp),aa (aa HV.o.2.1 HY.o.2.2) g3⟩
 clear CP o3 g3 hP HY HV c0 c1 c2 c3 s0 s1 s2 s3 s4 s5 s6 s7 s8 s9 s10;obtain⟨B,hB⟩:=Qe (w3.heap.size);have HB:QH (B=w3.heap.size):=hB;clear hB;obtain⟨M,hM⟩:=Qe (P.length);have HMl:QH (M=P.length):=hM;rw[←hM];clear hM;go_wp2_with fail;go_loopw [10,35] (fun v i wr=>∃ (k:Nat) (p:Option Addr) (c:Nat),k≤M∧i=.int .i64 (k:Int)∧v=.slice p k c∧QH (aV wr B (.slice p k c) (swU ((j:Int)+1) ps k)∧w3.grownBy wr none)) (fun _ i _=>M - (intOf i).toNat)
 case atStart=>exact⟨0,none,0,Q0 _,rfl,rfl,aB.Own.nil _ _ _ _,aw _ _⟩
 case round =>
  obtain⟨k,p,c,hk',rfl,rfl,HK⟩:=hrel;obtain⟨U,hU⟩:=Qe (wr);subst hU;by_cases hi2:k<M
  ·have i1:(k:Int)<(M:Int):=Int.ofNat_lt.2 hi2;have hk0:k<P.length:=(by rw[←HMl.o];exact hi2);have hM4:M≤4:=(by rw[HMl.o,HP.o];exact yx ps 6 H4.o);have hwk:=aR (k:=k) (by omega);have HM:QH (M - (intOf (.int .i64 ((k:Int)+1))).toNat<M - (intOf (.int .i64 (k:Int))).toNat):=cj hi2;obtain⟨x,hx⟩:∃ x,P[k]?=some x:=⟨_,Qg hk0⟩
   obtain⟨q,e1,hq,-⟩:=pS ps 0 6 x (by rw[←HP.o];exact Qm hx);rw[Qa8] at e1;subst e1;obtain⟨gP,cP,eP,_,_,_,_,hcP⟩:=eB H3.o.1 (by omega);injection eP with eP eP2 eP3;clear eP2 eP3;subst eP;have y0:U.cell? ⟨gP,k,none⟩=some (.int .i64 (q:Int)):=HK.o.2.cell ((hcP k (by omega)).1.trans (by rw[Ed P k hk0];rw[Qg hk0] at hx;injection hx with hx;rw[Qa2,Qg hk0];simp[hx])) (by simp);obtain⟨pp,hpp⟩:∃ pp,ps[q]?=some pp:=⟨_,Qg hq⟩
   obtain⟨gQ,oQ,cQ,eQ,RQ⟩:=H3.o.2.1.part (by omega);have eQ1:a2=some ⟨gQ,oQ,none⟩:=(by injection eQ);clear eQ;subst eQ1;obtain⟨d0,d1,d2,d3,d4,d5,d6,d7⟩:=(RQ q pp hpp).keep HK.o.2;have q8:=HK.o.2.cell (ae H3.o.2.2.1 8) (by simp);simp only[ccs] at q8;have q1:(q:Int)<(ps.length:Int):=Int.ofNat_lt.2 hq;have q0:(0:Int)≤(q:Int):=by omega
   have HN:QH (swU ((j:Int)+1) ps (k+1)=swU ((j:Int)+1) ps k++[⟨(j:Int)+1,(q:Int),pp⟩]):=by
    show _=_;rw[Bz (by rw[←HP.o];exact hx)];unfold mkS;rw[Qc3,Qa2,hpp];rfl
   obtain⟨e,he⟩:∃ e:Sd,e=⟨(j:Int)+1,(q:Int),pp⟩:=⟨_,rfl⟩
   have HO:QH (U.ownsRow B 64 10 (.slice p k c) k (sdR.cs (swU ((j:Int)+1) ps k))):=by
    have:=HK.o.1;unfold aV aB.Own at this;rw[yJ (by rw[←HP.o];omega)] at this;exact this
   have HLn:QH (k+1≤maxLen∧(k+1)*56≤140737488355328∧B≤(U.alloc (.cells (sdc e).toArray 64)).heap.size):=by
    have:=Ee rfl hi2 hM4;exact⟨this.1,this.2,by rw[HB.o];exact(am HK.o.2 _).size⟩
   have HSr:QH (Src (U.alloc (.cells (sdc e).toArray 64)) (.slice (some ⟨U.heap.size,0,none⟩) 1 1) 1 10 (sdc e)):=oW U e;have HKk:QH (k+1≤M∧(swU ((j:Int)+1) ps k).length=k∧w3.grownBy U none):=⟨hi2,yJ (by rw[←HP.o];omega),HK.o.2⟩
   rw[←he] at HN;subst he;clear hk' hi2 hk0 hM4 hx hq hcP hpp RQ HK;unfold sdc at HLn HSr;go_upto_region 9 with (at_builtin;refine br (by rfl) (.tmp 39) (.tmp 48) 30 rfl B 64 i0 _ 10 56 underlying30 hi hz0 hz1 hz2 rfl (by decide) _ k (sdR.cs (swU ((j:Int)+1) ps k)) rfl (Qaq HO.o _) _ 1 (sdc ⟨(j:Int)+1,(q:Int),pp⟩) rfl HSr.o (fx _) HLn.o.1 HLn.o.2.1 HLn.o.2.2 ?_;intro v9 w9 o9 g9 _;obtain⟨pv,kv,rfl,-⟩:=bZ o9;have HO9:QH _:=o9;have HG9:QH _:=g9;clear o9 g9)
   have HZ:QH (aV w9 B (.slice pv (k+1) kv) (swU ((j:Int)+1) ps (k+1))∧w3.grownBy w9 none):=by
    refine⟨?_,ak (aa HKk.o.2.2 (Qa0 U _ none)) HG9.o (fun y e=>by rw[←HB.o];exact(Qa5 HO.o y e).1)⟩;rw[HN.o];exact aB.more HO9.o HKk.o.2.1.symm
   clear HO9 HG9 HO HSr HLn HN;go_wp2_with fail;go_roundw
   case rel=>exact⟨k+1,pv,kv,HKk.o.1,by first | rfl | (rw[hwk];rfl) | go_num,rfl,HZ.o⟩
   case measure=>first | exact HM.o | (rw[hwk];exact HM.o)
  ·obtain rfl:k=M:=Qag hk' (Qac hi2);have i1:¬(k:Int)<(k:Int):=Qb3 _
   have HF:QH (aV U w.heap.size (.slice p k c) (cZ ((j:Int)+1) ps)∧w.grownBy U none):=by
    have:=HK.o.1;rw[show swU ((j:Int)+1) ps k=cZ ((j:Int)+1) ps from by rw[HMl.o,HP.o];exact EX _ _] at this;exact⟨bj this (by rw[HB.o];exact H3.o.2.2.2.size),aa H3.o.2.2.2 HK.o.2⟩
   clear hk' hi2 HK;go_wp2_with fail;go_ret;exact⟨_,rfl,HF.o⟩
