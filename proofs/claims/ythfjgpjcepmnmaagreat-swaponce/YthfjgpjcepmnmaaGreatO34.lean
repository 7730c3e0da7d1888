import Derived.Test.YthfjgpjcepmnmaaGreatO33
import Derived.Test.YthfjgpjcepmnmaaGreatO11
import Derived.Test.YthfjgpjcepmnmaaGreatO19
import Derived.OwnWalk
import Derived.Maps.AppendAt
namespace Go.Proofs.YthfjgpjcepmnmaaGreat
set_option maxRecDepth 100000
set_option maxHeartbeats 4000000
open Go.RowKit
def onB (ts:List Th) (k:Nat):List Int:=onN (ts.take k) 0
theorem DB {ts:List Th} {k:Nat} {t:Th} (ht:ts[k]?=some t) (h:t.place=4):onB ts (k+1)=onB ts k++[(k:Int)+1]:=by unfold onB;rw[sg ht,if_pos h]
theorem Fj {ts:List Th} {k:Nat} {t:Th} (ht:ts[k]?=some t) (h:¬t.place=4):onB ts (k+1)=onB ts k:=by unfold onB;rw[sg ht,if_neg h]
theorem Ck (ts:List Th) (k:Nat):(onB ts k).length≤k:=by
 have:=oX (ts.take k) 0
 rw[List.length_take] at this
 unfold onB
 omega
theorem BR {l k n:Nat} (h:l≤k) (hk:k<n) (hn:n≤2048):l+1≤maxLen∧(l+1)*8≤140737488355328:=⟨by unfold maxLen;omega,by omega⟩
theorem ur (bv vt vf vl:Value) (n:Int) (cd:Int→Hd×List Pt) (ts:List Th) (F:List Fe) (R:List Rw) (w:World) (A:thR.At w vt ts) (hT:Tab n cd ts F R) (hl:ts.length≤2048):Calls Tryz.prog 128 #[ch bv vt vf vl] w fun e w'=>∃ v,e=.returned v∧aU w' w.heap.size v (R.map Rw.nu)∧w.grownBy w' none:=by
 obtain⟨i0,hi,hz0,hz1,hz2⟩:=info_parts Tryz.linfo3
 obtain⟨pt,ct,rfl⟩:=A.form
 obtain⟨V,hV⟩:∃ V,V=w.alloc (.cells #[bv,.slice pt ts.length ct,vf,vl] 136):=⟨_,rfl⟩
 have HV:Hid (bY V w.heap.size bv (.slice pt ts.length ct) vf vl∧w.grownBy V none∧thR.At V (.slice pt ts.length ct) ts):=by
  have gr:w.grownBy V none:=by rw[hV];exact World.grownBy_alloc _ _ none
  exact⟨by rw[hV];exact ai _ _ _,gr,A.keep gr⟩
 have HA:Hid (Tab n cd ts F R∧ts.length≤2048):=⟨hT,hl⟩
 unfold ch
 clear A hT hl
 go_enter Tryz.func128,Tryz.ntmps128
 go_upto_region 1 with fail
 rw[←hV]
 clear hV
 obtain⟨n0,hn0⟩:∃ n0,n0=w.heap.size:=⟨_,rfl⟩
 rw[←hn0] at HV ⊢
 have Hn0:Hid (n0=w.heap.size):=hn0
 clear hn0
 obtain⟨c0,c1,c2,c3⟩:=aR HV.out.1
 obtain⟨B,hB⟩:∃ B,B=V.heap.size:=⟨_,rfl⟩
 have HB:Hid (B=V.heap.size):=hB
 clear hB
 go_wp2_with fail
 go_loopw [3,9] (fun v i wr=>∃ (k:Nat) (p:Option Addr) (m c:Nat),k≤ts.length∧i=.int .i64 (k:Int)∧v=.slice p m c∧Hid (aU wr B (.slice p m c) (onB ts k)∧m=(onB ts k).length∧V.grownBy wr none)) (fun _ i _=>ts.length - (intOf i).toNat)
 case atStart=>exact⟨0,none,0,0,Nat.zero_le _,rfl,rfl,⟨rfl,Or.inl ⟨rfl,rfl⟩⟩,rfl,aq _ _⟩
 case round =>
  obtain⟨k,p,m,c,hk',rfl,rfl,HK⟩:=hrel
  obtain⟨U,hU⟩:∃ U,U=wr:=⟨_,rfl⟩
  subst hU
  by_cases hi2:k<ts.length
  ·have i1:(k:Int)<(ts.length:Int):=Int.ofNat_lt.2 hi2
   have hwk:=aK (k:=k) (Nat.le_trans (Nat.le_of_lt hi2) (Nat.le_trans HA.out.2 (by decide)))
   have HM:Hid (ts.length - (intOf (.int .i64 ((k:Int)+1))).toNat<ts.length - (intOf (.int .i64 (k:Int))).toNat):=bF hi2
   obtain⟨gT,oT,cT,eT,-⟩:=bG HV.out.2.2 hi2
   injection eT with eT eT2 eT3
   clear eT2 eT3
   subst eT
   obtain⟨t,hs⟩:∃ t,ts[k]?=some t:=⟨_,List.getElem?_eq_getElem hi2⟩
   obtain⟨s0,s1,s2,s3,s4,s5,s6,s7,s8,s9,s10⟩:=bc (gh (HV.out.2.2.keep HK.out.2.2) hs)
   have Hs:Hid (ts[k]?=some t∧k<ts.length):=⟨hs,hi2⟩
   have c1':=HK.out.2.2.cell c1 (by simp)
   obtain⟨Y,hY⟩:∃ Y,Y=U.alloc (.cells #[.int .i64 t.card,.int .i64 t.owner,.int .u8 t.place,.int .i64 t.stamp,.int .i64 t.hurt,.int .i64 t.m0,.int .i64 t.m1,.int .i64 t.m2,.int .i64 t.m3,.int .i64 t.done,.bool t.fresh] 100):=⟨_,rfl⟩
   have HY:Hid (ThB Y U.heap.size t∧U.grownBy Y none∧aU Y B (.slice p m c) (onB ts k)∧m=(onB ts k).length∧V.grownBy Y none):=by
    have gr:U.grownBy Y none:=by rw[hY];exact World.grownBy_alloc _ _ none
    exact⟨by rw[hY];exact ai _ _ _,gr,aA HK.out.1 gr,HK.out.2.1,aa HK.out.2.2 gr⟩
   clear hk' hi2 hs HK
   go_upto_region 5 with fail
   rw[←hY]
   obtain⟨n2,hn2⟩:∃ n2,n2=U.heap.size:=⟨_,rfl⟩
   rw[←hn2] at HY ⊢
   clear hY hn2 s0 s1 s2 s3 s4 s5 s6 s7 s8 s9 s10
   obtain⟨-,-,s2,-⟩:=cV HY.out.1
   by_cases h4:t.place=4
   ·have HN:Hid (onB ts (k+1)=onB ts k++[(k:Int)+1]):=DB Hs.out.1 h4
    rw[h4] at s2
    have HO:Hid (Y.ownsRow B 3 1 (.slice p m c) m (cD (onB ts k))):=by have:=HY.out.2.2.1;unfold aU at this;rw[←HY.out.2.2.2.1] at this;exact this
    have HLn:Hid (m+1≤maxLen∧(m+1)*8≤140737488355328∧B≤(Y.alloc (.cells #[.int .i64 ((k:Int)+1)] 3)).heap.size):=by
     have:=BR (l:=m) (by rw[HY.out.2.2.2.1];exact Ck ts k) Hs.out.2 HA.out.2
     exact⟨this.1,this.2,by rw[HB.out];exact(ak HY.out.2.2.2.2 _).size⟩
    have HSr:Hid (Src (Y.alloc (.cells #[.int .i64 ((k:Int)+1)] 3)) (.slice (some ⟨Y.heap.size,0,none⟩) 1 1) 1 1 (cD [(k:Int)+1])):=⟨_,_,rfl,rfl,fun _=>⟨_,rfl,lE Y _⟩⟩
    clear h4
    go_upto_region 7 with (at_builtin;refine cm (by rfl) (.tmp 17) (.tmp 20) 139 rfl B 3 i0 _ 1 8 Tryz.underlying139 hi hz0 hz1 hz2 rfl (by decide) _ m (cD (onB ts k)) rfl (World.ownsRow.alloc HO.out _) _ 1 (cD [(k:Int)+1]) rfl HSr.out (ky _) HLn.out.1 HLn.out.2.1 HLn.out.2.2 ?_;intro v9 w9 o9 g9 _;obtain⟨pv,kv,rfl,-⟩:=cH o9;have HO9:Hid _:=o9;have HG9:Hid _:=g9;clear o9 g9)
    have HZ:Hid (aU w9 B (.slice pv (m+1) kv) (onB ts (k+1))∧m+1=(onB ts (k+1)).length∧V.grownBy w9 none):=by
     refine⟨?_,?_,am (aa HY.out.2.2.2.2 (World.grownBy_alloc Y (.cells #[.int .i64 ((k:Int)+1)] 3) none)) HG9.out (fun y e=>by rw[←HB.out];exact(World.ownsRow.lt (World.ownsRow.alloc HO.out (.cells #[.int .i64 ((k:Int)+1)] 3)) y e).1)⟩
     ·rw[HN.out]
      exact kF HO9.out HY.out.2.2.2.1
     ·rw[HN.out,List.length_append,←HY.out.2.2.2.1];rfl
    clear HO9 HG9 HO HSr HLn HN
    go_wp2_with fail
    go_roundw
    case rel=>exact⟨k+1,pv,m+1,kv,Hs.out.2,by first | rfl | (rw[hwk];rfl) | go_num,rfl,HZ.out⟩
    case measure=>first | exact HM.out | (rw[hwk];exact HM.out)
   ·have e1:(t.place == 4)=false:=by simpa using h4
    have HN:Hid (onB ts (k+1)=onB ts k):=Fj Hs.out.1 h4
    have HZ:Hid (aU Y B (.slice p m c) (onB ts (k+1))∧m=(onB ts (k+1)).length∧V.grownBy Y none):=by rw[HN.out];exact HY.out.2.2
    clear h4 HN HY
    go_wp2_with fail
    go_roundw
    case rel=>exact⟨k+1,p,m,c,Hs.out.2,by first | rfl | (rw[hwk];rfl) | go_num,rfl,HZ.out⟩
    case measure=>first | exact HM.out | (rw[hwk];exact HM.out)
  ·obtain rfl:k=ts.length:=Nat.le_antisymm hk' (Nat.le_of_not_lt hi2)
   have i1:¬(ts.length:Int)<(ts.length:Int):=Int.lt_irrefl _
   have hO:aU U B (.slice p m c) (onN ts 0):=by have:=HK.out.1;unfold onB at this;rw[List.take_length] at this;exact this
   have CS:=xG V U n0 bv (.slice pt ts.length ct) vf vl (.slice p m c) ts (onN ts 0) HV.out.1 HV.out.2.2 HA.out.2 HK.out.2.2 (by rw[←HB.out];exact hO) (fun x hx=>by have:=AJ ts 0 x hx;omega) (by have:=oX ts 0;have:=HA.out.2;omega)
   have hmf:∀ (fn:Fn) (first cap:Array Value) (w:World),(Instr.makeFunc fn first cap).run Tryz.prog w=.ok (.func fn first cap) w:=fun _ _ _ _=>rfl
   have HQ:Hid (Tab n cd ts F R∧w.heap.size≤B∧w.grownBy V none∧B=V.heap.size):=⟨HA.out.1,by rw[HB.out];exact HV.out.2.1.size,HV.out.2.1,HB.out⟩
   clear hk' hi2 HK hO
   go_wp2_with (go_at_call 194;refine CS.mono ?_;rintro e7 w7 ⟨rfl,l',p7,s7,o7,g7⟩;have H7:Hid (l'=R.map Rw.nu∧aU w7 V.heap.size (.slice p m c) l'∧V.grownBy w7 none):=⟨HQ.out.1.nums p7 s7,o7,g7⟩;clear p7 s7 o7 g7)
   go_ret
   exact⟨_,rfl,by rw[←H7.out.1];exact aY H7.out.2.1 (by rw[←HQ.out.2.2.2];exact HQ.out.2.1),aa HQ.out.2.2.1 H7.out.2.2⟩
theorem vN:∀ (ps:List Pt) (k:Nat) (m n:Int),n∈plF ps k m↔∃ (i:Nat) (q:Pt),n=((k+i:Nat):Int)∧ps[i]?=some q∧q.wn=m
 | [],k,m,n=>by simp[plF]
 | q :: r,k,m,n=>by
  have ih:=vN r (k+1) m n
  have key:(∃ (i:Nat) (x:Pt),n=((k+i:Nat):Int)∧(q :: r)[i]?=some x∧x.wn=m)↔(n=(k:Int)∧q.wn=m)∨∃ (i:Nat) (x:Pt),n=((k+1+i:Nat):Int)∧r[i]?=some x∧x.wn=m:=by
   constructor
   ·rintro⟨i,x,h1,h2,h3⟩
    cases i with
    | zero=>left;simp at h2;subst h2;exact⟨by simpa using h1,h3⟩
    | succ i=>right;exact⟨i,x,by rw[h1];congr 1;omega,by simpa using h2,h3⟩
   ·rintro (⟨h1,h2⟩ | ⟨i,x,h1,h2,h3⟩)
    ·exact⟨0,q,by simpa using h1,rfl,h2⟩
    ·exact⟨i+1,x,by rw[h1];congr 1;omega,by simpa using h2,h3⟩
  rw[key,←ih,show plF (q :: r) k m=if q.wn=m then (k:Int) :: plF r (k+1) m else plF r (k+1) m from rfl]
  by_cases hq:q.wn=m
  ·rw[if_pos hq]
   simp[hq]
  ·rw[if_neg hq]
   simp[hq]
theorem Cn:∀ (ps:List Pt) (k:Nat) (m n:Int),n∈plF ps k m→(k:Int)≤n∧n<(k:Int)+ps.length:=fun ps k m n h=>by
 obtain⟨i,q,h1,h2,_⟩:=(vN ps k m n).1 h
 have:=(List.getElem?_eq_some_iff.1 h2).1
 omega
theorem jY:∀ (ps:List Pt) (k:Nat) (m:Int),(plF ps k m).Nodup
 | [],k,m=>by simp[plF]
 | q :: r,k,m=>by
  unfold plF
  split
  ·rw[List.nodup_cons]
   exact⟨fun h=>by have:=Cn _ _ _ _ h;omega,jY r (k+1) m⟩
  ·exact jY r (k+1) m
theorem qM:∀ (ps:List Pt) (k:Nat) (m:Int),(plF ps k m).length≤ps.length
 | [],k,m=>by simp[plF]
 | q :: r,k,m=>by
  unfold plF
  have:=qM r (k+1) m
  split
  ·simp;omega
  ·simp;omega
theorem tl (m:Int) (q:Pt):∀ (ps:List Pt) (k:Nat),plF (ps++[q]) k m=if q.wn=m then plF ps k m++[((k+ps.length:Nat):Int)] else plF ps k m
 | [],k=>by
  show plF [q] k m=_
  unfold plF
  split <;> simp[plF]
 | x :: r,k=>by
  have ih:=tl m q r (k+1)
  show plF (x :: (r++[q])) k m=_
  unfold plF
  rw[ih,show k+1+r.length=k+(x :: r).length by simp;omega]
  split <;> split <;> simp
theorem Tryz.info3t:(Tryz.prog.info? 3).map (fun i=>(i.zero,i.size,i.bytes))=some (some (.int .i64 0),1,8):=by kernel_rfl
theorem wX (l:List Int):∀ u∈cD l,u.oneCell'=true:=fun u hu=>by
 obtain⟨z,_,rfl⟩:=List.mem_map.1 hu
 rfl
theorem yd (a b:List Int):cD (a++b)=cD a++cD b:=by simp[cD]
theorem Am (U:World) (x:Int):∀ j u,(cD [x])[j]?=some u→(U.alloc (.cells #[.int .i64 x] 3)).cell? ((⟨U.heap.size,0,none⟩:Addr).add j)=some u:=fun j u hu=>by
 rw[ci,Nat.zero_add,ac (ai _ _ _)]
 simpa [cD] using hu
def OwT (w:World) (base:Nat) (v:Value) (l:List Int):Prop:=w.ownsRow base 3 1 v l.length (cD l)
theorem OwT.nil (w:World) (base:Nat):OwT w base (.slice none 0 0) []:=⟨rfl,Or.inl ⟨rfl,rfl⟩⟩
theorem OwT.form {w:World} {base:Nat} {v:Value} {l:List Int} (h:OwT w base v l):∃ p c,v=.slice p l.length c:=by
 rcases h.2 with ⟨e,h0⟩ | ⟨g,cap,cur,e,_⟩
 ·exact⟨none,0,by rw[e,h0]⟩
 ·exact⟨_,_,e⟩
theorem yw {w':World} {base n:Nat} {v:Value} {l:List Int} {x:Int} (h:w'.ownsRow base 3 1 v (n+1) (cD l++cD [x])) (hn:n=l.length):OwT w' base v (l++[x]):=by
 unfold OwT
 rw[List.length_append,List.length_singleton,yd,←hn]
 exact h
theorem zC {w:World} {base base' e size n:Nat} {v:Value} {xs:List Value} (h:w.ownsRow base e size v n xs) (hb:base'≤base):w.ownsRow base' e size v n xs:=by
 refine⟨h.1,?_⟩
 rcases h.2 with q | ⟨g,cap,cur,e1,hg,r⟩
 ·exact Or.inl q
 ·exact Or.inr ⟨g,cap,cur,e1,Nat.le_trans hb hg,r⟩
theorem Bd {ps:List Pt} {k:Nat} {q:Pt} {m:Int} (hq:ps[k]?=some q):plF (ps.take (k+1)) 0 m=if q.wn=m then plF (ps.take k) 0 m++[(k:Int)] else plF (ps.take k) 0 m:=by
 have hk:=(List.getElem?_eq_some_iff.1 hq).1
 rw[List.take_add_one,hq,show (some q).toList=[q] from rfl,tl,List.length_take,Nat.zero_add,Nat.min_eq_left (by omega)]
theorem yS (U:World) (o:Obj) (x:Int):∀ j u,(cD [x])[j]?=some u→((U.alloc o).alloc (.cells #[.int .i64 x] 3)).cell? ((⟨U.heap.size+1,0,none⟩:Addr).add j)=some u:=by
 have:=Am (U.alloc o) x
 rwa [World.size_alloc] at this
theorem xB (bv:Value) (t:Th) (h:Hd) (ps:List Pt) (x m:Int) (w:World) (hx:¬x=0→ps=[]) (hl:ps.length≤4) (HC:∀ X,w.grownBy X none→Calls Tryz.prog 197 #[bv,thv t] X (dj h ps x X)):Calls Tryz.prog 198 #[bv,thv t,.int .u8 m] w fun e w'=>∃ v,e=.returned (.tuple #[v,.int .i64 x])∧OwT w' w.heap.size v (plF ps 0 m)∧w.grownBy w' none:=by
 obtain⟨i0,hi,hz0,hz1,hz2⟩:=info_parts Tryz.info3t
 obtain⟨W1,hW1⟩:∃ W1,W1=w.alloc (.cells #[.int .i64 t.card,.int .i64 t.owner,.int .u8 t.place,.int .i64 t.stamp,.int .i64 t.hurt,.int .i64 t.m0,.int .i64 t.m1,.int .i64 t.m2,.int .i64 t.m3,.int .i64 t.done,.bool t.fresh] 100):=⟨_,rfl⟩
 have HG1:Hid (w.grownBy W1 none):=by rw[hW1];exact World.grownBy_alloc _ _ none
 have HT:Hid (W1.heap[w.heap.size]?=some (.cells #[.int .i64 t.card,.int .i64 t.owner,.int .u8 t.place,.int .i64 t.stamp,.int .i64 t.hurt,.int .i64 t.m0,.int .i64 t.m1,.int .i64 t.m2,.int .i64 t.m3,.int .i64 t.done,.bool t.fresh] 100 (0,0))):=by rw[hW1];exact ai w _ _
 have HC1:=HC W1 HG1.out
 have HX:Hid (¬x=0→ps=[]):=hx
 have HL:Hid (ps.length≤4):=hl
 unfold dj cv thv at HC1
 unfold thv
 clear HC hx hl
 go_enter Tryz.func198,Tryz.ntmps198
 go_upto_region 1 with fail
 rw[←hW1]
 clear hW1
 obtain⟨n0,h0⟩:∃ n0,n0=w.heap.size:=⟨_,rfl⟩
 simp only[←h0] at HT ⊢
 have HN0:Hid (n0=w.heap.size):=h0
 clear h0
 have x0:=ac HT.out 0
 have x1:=ac HT.out 1
 have x2:=ac HT.out 2
 have x3:=ac HT.out 3
 have x4:=ac HT.out 4
 have x5:=ac HT.out 5
 have x6:=ac HT.out 6
 have x7:=ac HT.out 7
 have x8:=ac HT.out 8
 have x9:=ac HT.out 9
 have x10:=ac HT.out 10
 go_wp2_with fail
 refine HC1.mono ?_
 rintro e w2 ⟨u,rfl,o2,g2⟩
 have HPs:Hid (bI w2 u ps):=o2.at
 obtain⟨a2,k2,rfl⟩:=o2.at.form
 obtain⟨W3,hW3⟩:∃ W3,W3=w2.alloc (.cells (ccs h (.slice a2 ps.length k2)) 54):=⟨_,rfl⟩
 have HG3:Hid (w.grownBy W3 none):=by rw[hW3];exact ak (aa HG1.out g2) _
 have HP3:Hid (bI W3 (.slice a2 ps.length k2) ps):=by rw[hW3];exact HPs.out.keep (World.grownBy_alloc _ _ none)
 have HK:Hid (W3.heap[w2.heap.size]?=some (.cells (ccs h (.slice a2 ps.length k2)) 54 (0,0))):=by rw[hW3];exact ai _ _ _
 unfold ccs at hW3
 clear HC1 o2 g2 HT HG1 HPs x0 x1 x2 x3 x4 x5 x6 x7 x8 x9 x10
 go_upto_region 2 with fail
 rw[←hW3]
 clear hW3
 obtain⟨kk,hk⟩:∃ kk,kk=w2.heap.size:=⟨_,rfl⟩
 rw[←hk] at HK ⊢
 clear hk
 have q8:=ac HK.out 8
 simp only[ccs] at q8
 by_cases hx:x=0
 case neg =>
  have hps:=HX.out hx
  have HE:Hid (OwT W3 n0 (.slice none 0 0) (plF ps 0 m)):=by rw[hps];exact OwT.nil _ _
  have e1:(x != 0)=true:=by simpa using hx
  clear hx hps HP3
  go_wp2
  go_ret2
  rw[←HN0.out]
  exact⟨_,rfl,HE.out,HG3.out⟩
 subst hx
 clear HX
 obtain⟨n,hn⟩:∃ n,n=ps.length:=⟨_,rfl⟩
 have HNn:Hid (n=ps.length):=hn
 simp only[←hn] at HP3 HK q8 ⊢
 clear hn
 go_wp2_with fail
 obtain⟨n3,hn3⟩:∃ n3,n3=W3.heap.size:=⟨_,rfl⟩
 have HN3:Hid (n3=W3.heap.size):=hn3
 clear hn3
 go_loopw [10,11,12,25] (fun v _ _ i wr=>∃ k:Nat,k≤n∧i=.int .i64 (k:Int)∧OwT wr n3 v (plF (ps.take k) 0 m)∧W3.grownBy wr none) (fun _ _ _ i _=>n - (intOf i).toNat)
 case atStart=>exact⟨0,Nat.zero_le _,rfl,OwT.nil _ _,aq _ _⟩
 case round =>
  obtain⟨k,hk,rfl,O,G⟩:=hrel
  obtain⟨U,hU⟩:∃ U,U=wr:=⟨_,rfl⟩
  subst hU
  obtain⟨q,cq,rfl⟩:=O.form
  have q8':=G.cell q8 (by simp)
  by_cases hlt:k<n
  ·obtain⟨g,off,cap,ea,R⟩:=HP3.out.part (by have:=HNn.out;omega)
   have ea1:a2=some ⟨g,off,none⟩:=by injection ea
   clear ea
   subst ea1
   obtain⟨pt,hpt⟩:∃ pt,ps[k]?=some pt:=⟨_,List.getElem?_eq_getElem (by have:=HNn.out;omega)⟩
   obtain⟨d0,d1,d2,d3,d4,d5,d6,d7⟩:=(R k pt hpt).keep G
   have HO:Hid (U.ownsRow n3 3 1 (.slice q (plF (ps.take k) 0 m).length cq) (plF (ps.take k) 0 m).length (cD (plF (ps.take k) 0 m))):=O
   have HG:Hid (W3.grownBy U none):=G
   have HT:=Bd (m:=m) hpt
   have hlen:(plF (ps.take k) 0 m).length≤4:=Nat.le_trans (qM _ _ _) (by rw[List.length_take];have:=HL.out;omega)
   have hwk:wrap64 ((k:Int)+1)=(k:Int)+1:=by have:=HL.out;have:=HNn.out;unfold wrap64;omega
   obtain⟨l,hll⟩:∃ l,l=plF (ps.take k) 0 m:=⟨_,rfl⟩
   rw[←hll] at HO hlen HT ⊢
   obtain⟨j,hj⟩:∃ j,j=l.length:=⟨_,rfl⟩
   rw[←hj] at HO hlen ⊢
   have HN:Hid (j=l.length):=hj
   have HLm:Hid (j+1≤maxLen∧(j+1)*8≤140737488355328):=by show _∧_;unfold maxLen;omega
   have HP:Hid (k+1≤n):=hlt
   have HM:Hid (n - (intOf (.int .i64 ((k:Int)+1))).toNat<n - (intOf (.int .i64 (k:Int))).toNat):=aB hlt
   have hlt':(k:Int)<(n:Int):=by omega
   have hk0:(0:Int)≤(k:Int):=by omega
   have HSz:Hid (n3≤U.heap.size):=by show n3≤_;rw[HN3.out];exact HG.out.size
   have HOL:Hid (∀ y,(Value.slice q j cq).ownBlock=some y→W3.heap.size≤y):=fun y e=>by have:=(World.ownsRow.lt HO.out y e).1;rw[←HN3.out];exact this
   clear R O G hll hj hlen hk hpt
   by_cases hw:pt.wn=m
   ·have HY:Hid (plF (ps.take (k+1)) 0 m=l++[(k:Int)]):=by rw[if_pos hw] at HT;exact HT
    have e2:(pt.wn == m)=true:=by simpa using hw
    clear HT hw
    go_wp2_with (first | (at_builtin;go_loud (refine wpList_append_own _ rfl (.tmp 34) (.tmp 36) 139 rfl n3 3 i0 _ 1 8 Tryz.underlying139 hi hz0 hz1 hz2 rfl (by decide) _ j (cD l) rfl (World.ownsRow.alloc (World.ownsRow.alloc HO.out _) _) ⟨U.heap.size+1,0,none⟩ 1 1 (cD [(k:Int)]) rfl rfl (yS _ _ _) (wX _) HLm.out.1 (by have:=HLm.out.2;omega) (by rw[World.size_alloc,World.size_alloc];have:=HSz.out;omega) ?_;intro v3 w3 o3 g3 _;have HO3:Hid (OwT w3 n3 v3 (l++[(k:Int)])):=yw o3 HN.out;have HG4:Hid (W3.grownBy w3 none):=am (ak (ak HG.out _) _) g3 (fun x e=>HOL.out x e);clear o3 g3)) | fail)
    go_roundw
    case rel=>exact⟨k+1,HP.out,by first | rfl | (rw[hwk];rfl) | go_num,by rw[HY.out];exact HO3.out,HG4.out⟩
    case measure=>first | exact HM.out | (rw[hwk];exact HM.out)
   ·have HY:Hid (plF (ps.take (k+1)) 0 m=l):=by rw[if_neg hw] at HT;exact HT
    have e2:(pt.wn == m)=false:=by simpa using hw
    clear HT hw
    go_wp2_with fail
    go_roundw
    case rel=>exact⟨k+1,HP.out,by first | rfl | (rw[hwk];rfl) | go_num,by rw[HY.out];unfold OwT;rw[←HN.out];exact World.ownsRow.alloc HO.out _,ak HG.out _⟩
    case measure=>first | exact HM.out | (rw[hwk];exact HM.out)
  ·have hkn:k=n:=by omega
   have HF:Hid (OwT U n0 (.slice q (plF (ps.take k) 0 m).length cq) (plF ps 0 m)∧w.grownBy U none):=⟨by rw[hkn,HNn.out,List.take_length] at O ⊢;exact zC O (by rw[HN0.out,HN3.out];exact HG3.out.size),aa HG3.out G⟩
   have hlt':¬(k:Int)<(n:Int):=by omega
   clear O G hkn hk
   go_wp2
   go_ret2
   rw[←HN0.out]
   exact⟨_,rfl,HF.out⟩
end Go.Proofs.YthfjgpjcepmnmaaGreat
