/-
  Swaps: whether a thing lies on the table,whether an event may be,whether a part fits an event,whether a thing is shielded.
  Swaps: table: the numbers of the things on the table,by rising stamps.
  The places of a card's parts of a moment,plainly: which they are,that they rise,how many there are.
  thing's Parts,and the document's: the places of a card's parts of a moment.
  Swaps: swapsOf: the swaps of a thing's card.
-/
import Derived.Test.YthfjgpjcepmnmaaGreatZ46
import Derived.BigQuiet
import Derived.Test.YthfjgpjcepmnmaaGreatZ13
import Derived.Test.YthfjgpjcepmnmaaGreatZ22
import Derived.OwnWalk
import Derived.Maps.AppendAt
import Derived.Test.YthfjgpjcepmnmaaGreatZ29
namespace Go.Proofs.YthfjgpjcepmnmaaGreat
open Go.RowKit

set_option maxRecDepth 100000
set_option maxHeartbeats 4000000
def onB (ts:List Th) (k:Nat):List Int:=onN (ts.take k) 0
theorem onB_yes {ts:List Th} {k:Nat} {t:Th} (ht:ts[k]?=some t) (h:t.place=4):onB ts (k+1)=onB ts k++[(k:Int)+1]:=by unfold onB;rw[onN_take ht,if_pos h]
theorem onB_no {ts:List Th} {k:Nat} {t:Th} (ht:ts[k]?=some t) (h:¬t.place=4):onB ts (k+1)=onB ts k:=by unfold onB;rw[onN_take ht,if_neg h]
theorem onB_len (ts:List Th) (k:Nat):(onB ts k).length≤k:=by
 have:=onN_len (ts.take k) 0
 rw[List.length_take] at this
 unfold onB
 omega
theorem few_app {l k n:Nat} (h:l≤k) (hk:k<n) (hn:n≤2048):l+1≤maxLen∧(l+1)*8≤140737488355328:=⟨by unfold maxLen;omega,by omega⟩
theorem stable_any (bv vt vf vl:Value) (n:Int) (cd:Int→Hd×List Pt) (ts:List Th) (F:List Fe) (R:List Rw) (w:World) (A:thR.At w vt ts) (hT:Tab n cd ts F R) (hl:ts.length≤2048):Calls Tryz.prog 128 #[scnv bv vt vf vl] w fun e w'=>∃ v,e=.returned v∧LOwnI w' w.heap.size v (R.map Rw.nu)∧w.grownBy w' none:=by
 obtain⟨i0,hi,hz0,hz1,hz2⟩:=info_parts Tryz.linfo3
 obtain⟨pt,ct,rfl⟩:=A.form
 obtain⟨V,hV⟩:∃ V,V=w.alloc (.cells #[bv,.slice pt ts.length ct,vf,vl] 136):=⟨_,rfl⟩
 have HV:Hid (ScnB V w.heap.size bv (.slice pt ts.length ct) vf vl∧w.grownBy V none∧thR.At V (.slice pt ts.length ct) ts):=by
  have gr:w.grownBy V none:=by rw[hV];exact World.grownBy_alloc _ _ none
  exact⟨by rw[hV];exact alloc_at _ _ _,gr,A.keep gr⟩
 have HA:Hid (Tab n cd ts F R∧ts.length≤2048):=⟨hT,hl⟩
 unfold scnv
 clear A hT hl
 go_enter Tryz.func128,Tryz.ntmps128
 go_upto_region 1 with fail
 rw[←hV]
 clear hV
 obtain⟨n0,hn0⟩:∃ n0,n0=w.heap.size:=⟨_,rfl⟩
 rw[←hn0] at HV ⊢
 have Hn0:Hid (n0=w.heap.size):=hn0
 clear hn0
 obtain⟨c0,c1,c2,c3⟩:=scn_box HV.out.1
 obtain⟨B,hB⟩:∃ B,B=V.heap.size:=⟨_,rfl⟩
 have HB:Hid (B=V.heap.size):=hB
 clear hB
 go_wp2_with fail
 go_loopw [3,9] (fun v i wr=>∃ (k:Nat) (p:Option Addr) (m c:Nat),k≤ts.length∧i=.int .i64 (k:Int)∧v=.slice p m c∧Hid (LOwnI wr B (.slice p m c) (onB ts k)∧m=(onB ts k).length∧V.grownBy wr none)) (fun _ i _=>ts.length - (intOf i).toNat)
 case atStart=>exact⟨0,none,0,0,Nat.zero_le _,rfl,rfl,⟨rfl,Or.inl ⟨rfl,rfl⟩⟩,rfl,grown_refl _ _⟩
 case round =>
  obtain⟨k,p,m,c,hk',rfl,rfl,HK⟩:=hrel
  obtain⟨U,hU⟩:∃ U,U=wr:=⟨_,rfl⟩
  subst hU
  by_cases hi2:k<ts.length
  ·have i1:(k:Int)<(ts.length:Int):=Int.ofNat_lt.2 hi2
   have hwk:=wrap_next (k:=k) (Nat.le_trans (Nat.le_of_lt hi2) (Nat.le_trans HA.out.2 (by decide)))
   have HM:Hid (ts.length - (intOf (.int .i64 ((k:Int)+1))).toNat<ts.length - (intOf (.int .i64 (k:Int))).toNat):=meas_k hi2
   obtain⟨gT,oT,cT,eT,-⟩:=th_there HV.out.2.2 hi2
   injection eT with eT eT2 eT3
   clear eT2 eT3
   subst eT
   obtain⟨t,hs⟩:∃ t,ts[k]?=some t:=⟨_,List.getElem?_eq_getElem hi2⟩
   obtain⟨s0,s1,s2,s3,s4,s5,s6,s7,s8,s9,s10⟩:=th_cells (rec_thV (HV.out.2.2.keep HK.out.2.2) hs)
   have Hs:Hid (ts[k]?=some t∧k<ts.length):=⟨hs,hi2⟩
   have c1':=HK.out.2.2.cell c1 (by simp)
   obtain⟨Y,hY⟩:∃ Y,Y=U.alloc (.cells #[.int .i64 t.card,.int .i64 t.owner,.int .u8 t.place,.int .i64 t.stamp,.int .i64 t.hurt,.int .i64 t.m0,.int .i64 t.m1,.int .i64 t.m2,.int .i64 t.m3,.int .i64 t.done,.bool t.fresh] 100):=⟨_,rfl⟩
   have HY:Hid (ThB Y U.heap.size t∧U.grownBy Y none∧LOwnI Y B (.slice p m c) (onB ts k)∧m=(onB ts k).length∧V.grownBy Y none):=by
    have gr:U.grownBy Y none:=by rw[hY];exact World.grownBy_alloc _ _ none
    exact⟨by rw[hY];exact alloc_at _ _ _,gr,own_grow HK.out.1 gr,HK.out.2.1,grown_trans HK.out.2.2 gr⟩
   clear hk' hi2 hs HK
   go_upto_region 5 with fail
   rw[←hY]
   obtain⟨n2,hn2⟩:∃ n2,n2=U.heap.size:=⟨_,rfl⟩
   rw[←hn2] at HY ⊢
   clear hY hn2 s0 s1 s2 s3 s4 s5 s6 s7 s8 s9 s10
   obtain⟨-,-,s2,-⟩:=th_box HY.out.1
   by_cases h4:t.place=4
   ·have HN:Hid (onB ts (k+1)=onB ts k++[(k:Int)+1]):=onB_yes Hs.out.1 h4
    rw[h4] at s2
    have HO:Hid (Y.ownsRow B 3 1 (.slice p m c) m (ints (onB ts k))):=by have:=HY.out.2.2.1;unfold LOwnI at this;rw[←HY.out.2.2.2.1] at this;exact this
    have HLn:Hid (m+1≤maxLen∧(m+1)*8≤140737488355328∧B≤(Y.alloc (.cells #[.int .i64 ((k:Int)+1)] 3)).heap.size):=by
     have:=few_app (l:=m) (by rw[HY.out.2.2.2.1];exact onB_len ts k) Hs.out.2 HA.out.2
     exact⟨this.1,this.2,by rw[HB.out];exact(grown_push HY.out.2.2.2.2 _).size⟩
    have HSr:Hid (Src (Y.alloc (.cells #[.int .i64 ((k:Int)+1)] 3)) (.slice (some ⟨Y.heap.size,0,none⟩) 1 1) 1 1 (ints [(k:Int)+1])):=⟨_,_,rfl,rfl,fun _=>⟨_,rfl,lone_new Y _⟩⟩
    clear h4
    go_upto_region 7 with (at_builtin;refine lwpl_app (by rfl) (.tmp 17) (.tmp 20) 139 rfl B 3 i0 _ 1 8 Tryz.underlying139 hi hz0 hz1 hz2 rfl (by decide) _ m (ints (onB ts k)) rfl (World.ownsRow.alloc HO.out _) _ 1 (ints [(k:Int)+1]) rfl HSr.out (lints_one _) HLn.out.1 HLn.out.2.1 HLn.out.2.2 ?_;intro v9 w9 o9 g9 _;obtain⟨pv,kv,rfl,-⟩:=own_slice o9;have HO9:Hid _:=o9;have HG9:Hid _:=g9;clear o9 g9)
    have HZ:Hid (LOwnI w9 B (.slice pv (m+1) kv) (onB ts (k+1))∧m+1=(onB ts (k+1)).length∧V.grownBy w9 none):=by
     refine⟨?_,?_,grown_own (grown_trans HY.out.2.2.2.2 (World.grownBy_alloc Y (.cells #[.int .i64 ((k:Int)+1)] 3) none)) HG9.out (fun y e=>by rw[←HB.out];exact(World.ownsRow.lt (World.ownsRow.alloc HO.out (.cells #[.int .i64 ((k:Int)+1)] 3)) y e).1)⟩
     ·rw[HN.out]
      exact lown_more HO9.out HY.out.2.2.2.1
     ·rw[HN.out,List.length_append,←HY.out.2.2.2.1];rfl
    clear HO9 HG9 HO HSr HLn HN
    go_wp2_with fail
    go_roundw
    case rel=>exact⟨k+1,pv,m+1,kv,Hs.out.2,by first | rfl | (rw[hwk];rfl) | go_num,rfl,HZ.out⟩
    case measure=>first | exact HM.out | (rw[hwk];exact HM.out)
   ·have e1:(t.place == 4)=false:=by simpa using h4
    have HN:Hid (onB ts (k+1)=onB ts k):=onB_no Hs.out.1 h4
    have HZ:Hid (LOwnI Y B (.slice p m c) (onB ts (k+1))∧m=(onB ts (k+1)).length∧V.grownBy Y none):=by rw[HN.out];exact HY.out.2.2
    clear h4 HN HY
    go_wp2_with fail
    go_roundw
    case rel=>exact⟨k+1,p,m,c,Hs.out.2,by first | rfl | (rw[hwk];rfl) | go_num,rfl,HZ.out⟩
    case measure=>first | exact HM.out | (rw[hwk];exact HM.out)
  ·obtain rfl:k=ts.length:=Nat.le_antisymm hk' (Nat.le_of_not_lt hi2)
   have i1:¬(ts.length:Int)<(ts.length:Int):=Int.lt_irrefl _
   have hO:LOwnI U B (.slice p m c) (onN ts 0):=by have:=HK.out.1;unfold onB at this;rw[List.take_length] at this;exact this
   have CS:=sSort_any V U n0 bv (.slice pt ts.length ct) vf vl (.slice p m c) ts (onN ts 0) HV.out.1 HV.out.2.2 HA.out.2 HK.out.2.2 (by rw[←HB.out];exact hO) (fun x hx=>by have:=onN_in ts 0 x hx;omega) (by have:=onN_len ts 0;have:=HA.out.2;omega)
   have hmf:∀ (fn:Fn) (first cap:Array Value) (w:World),(Instr.makeFunc fn first cap).run Tryz.prog w=.ok (.func fn first cap) w:=fun _ _ _ _=>rfl
   have HQ:Hid (Tab n cd ts F R∧w.heap.size≤B∧w.grownBy V none∧B=V.heap.size):=⟨HA.out.1,by rw[HB.out];exact HV.out.2.1.size,HV.out.2.1,HB.out⟩
   clear hk' hi2 HK hO
   go_wp2_with (go_at_call 194;refine CS.mono ?_;rintro e7 w7 ⟨rfl,l',p7,s7,o7,g7⟩;have H7:Hid (l'=R.map Rw.nu∧LOwnI w7 V.heap.size (.slice p m c) l'∧V.grownBy w7 none):=⟨HQ.out.1.nums p7 s7,o7,g7⟩;clear p7 s7 o7 g7)
   go_ret
   exact⟨_,rfl,by rw[←H7.out.1];exact own_big H7.out.2.1 (by rw[←HQ.out.2.2.2];exact HQ.out.2.1),grown_trans HQ.out.2.2.1 H7.out.2.2⟩
theorem plF_len:∀ (ps:List Pt) (k:Nat) (m:Int),(plF ps k m).length≤ps.length
 | [],k,m=>by simp[plF]
 | q :: r,k,m=>by
  unfold plF
  have:=plF_len r (k+1) m
  split
  ·simp;omega
  ·simp;omega
theorem plF_snoc (m:Int) (q:Pt):∀ (ps:List Pt) (k:Nat),plF (ps++[q]) k m=if q.wn=m then plF ps k m++[((k+ps.length:Nat):Int)] else plF ps k m
 | [],k=>by
  show plF [q] k m=_
  unfold plF
  split <;> simp[plF]
 | x :: r,k=>by
  have ih:=plF_snoc m q r (k+1)
  show plF (x :: (r++[q])) k m=_
  unfold plF
  rw[ih,show k+1+r.length=k+(x :: r).length by simp;omega]
  split <;> split <;> simp
theorem Tryz.info3t:(Tryz.prog.info? 3).map (fun i=>(i.zero,i.size,i.bytes))=some (some (.int .i64 0),1,8):=by kernel_rfl
theorem ints_oneT (l:List Int):∀ u∈ints l,u.oneCell'=true:=fun u hu=>by
 obtain⟨z,_,rfl⟩:=List.mem_map.1 hu
 rfl
theorem ints_appT (a b:List Int):ints (a++b)=ints a++ints b:=by simp[ints]
theorem one_newT (U:World) (x:Int):∀ j u,(ints [x])[j]?=some u→(U.alloc (.cells #[.int .i64 x] 3)).cell? ((⟨U.heap.size,0,none⟩:Addr).add j)=some u:=fun j u hu=>by
 rw[add_plain,Nat.zero_add,block_cell (alloc_at _ _ _)]
 simpa [ints] using hu
def OwT (w:World) (base:Nat) (v:Value) (l:List Int):Prop:=w.ownsRow base 3 1 v l.length (ints l)
theorem OwT.nil (w:World) (base:Nat):OwT w base (.slice none 0 0) []:=⟨rfl,Or.inl ⟨rfl,rfl⟩⟩
theorem OwT.form {w:World} {base:Nat} {v:Value} {l:List Int} (h:OwT w base v l):∃ p c,v=.slice p l.length c:=by
 rcases h.2 with ⟨e,h0⟩ | ⟨g,cap,cur,e,_⟩
 ·exact⟨none,0,by rw[e,h0]⟩
 ·exact⟨_,_,e⟩
theorem own_moreT {w':World} {base n:Nat} {v:Value} {l:List Int} {x:Int} (h:w'.ownsRow base 3 1 v (n+1) (ints l++ints [x])) (hn:n=l.length):OwT w' base v (l++[x]):=by
 unfold OwT
 rw[List.length_append,List.length_singleton,ints_appT,←hn]
 exact h
theorem own_lowT {w:World} {base base' e size n:Nat} {v:Value} {xs:List Value} (h:w.ownsRow base e size v n xs) (hb:base'≤base):w.ownsRow base' e size v n xs:=by
 refine⟨h.1,?_⟩
 rcases h.2 with q | ⟨g,cap,cur,e1,hg,r⟩
 ·exact Or.inl q
 ·exact Or.inr ⟨g,cap,cur,e1,Nat.le_trans hb hg,r⟩
theorem plF_take {ps:List Pt} {k:Nat} {q:Pt} {m:Int} (hq:ps[k]?=some q):plF (ps.take (k+1)) 0 m=if q.wn=m then plF (ps.take k) 0 m++[(k:Int)] else plF (ps.take k) 0 m:=by
 have hk:=(List.getElem?_eq_some_iff.1 hq).1
 rw[List.take_add_one,hq,show (some q).toList=[q] from rfl,plF_snoc,List.length_take,Nat.zero_add,Nat.min_eq_left (by omega)]
theorem one_newT2 (U:World) (o:Obj) (x:Int):∀ j u,(ints [x])[j]?=some u→((U.alloc o).alloc (.cells #[.int .i64 x] 3)).cell? ((⟨U.heap.size+1,0,none⟩:Addr).add j)=some u:=by
 have:=one_newT (U.alloc o) x
 rwa [World.size_alloc] at this
theorem tparts_of (bv:Value) (t:Th) (h:Hd) (ps:List Pt) (x m:Int) (w:World) (hx:¬x=0→ps=[]) (hl:ps.length≤4) (HC:∀ X,w.grownBy X none→Calls Tryz.prog 197 #[bv,thv t] X (CrPost h ps x X)):Calls Tryz.prog 198 #[bv,thv t,.int .u8 m] w fun e w'=>∃ v,e=.returned (.tuple #[v,.int .i64 x])∧OwT w' w.heap.size v (plF ps 0 m)∧w.grownBy w' none:=by
 obtain⟨i0,hi,hz0,hz1,hz2⟩:=info_parts Tryz.info3t
 obtain⟨W1,hW1⟩:∃ W1,W1=w.alloc (.cells #[.int .i64 t.card,.int .i64 t.owner,.int .u8 t.place,.int .i64 t.stamp,.int .i64 t.hurt,.int .i64 t.m0,.int .i64 t.m1,.int .i64 t.m2,.int .i64 t.m3,.int .i64 t.done,.bool t.fresh] 100):=⟨_,rfl⟩
 have HG1:Hid (w.grownBy W1 none):=by rw[hW1];exact World.grownBy_alloc _ _ none
 have HT:Hid (W1.heap[w.heap.size]?=some (.cells #[.int .i64 t.card,.int .i64 t.owner,.int .u8 t.place,.int .i64 t.stamp,.int .i64 t.hurt,.int .i64 t.m0,.int .i64 t.m1,.int .i64 t.m2,.int .i64 t.m3,.int .i64 t.done,.bool t.fresh] 100 (0,0))):=by rw[hW1];exact alloc_at w _ _
 have HC1:=HC W1 HG1.out
 have HX:Hid (¬x=0→ps=[]):=hx
 have HL:Hid (ps.length≤4):=hl
 unfold CrPost cv thv at HC1
 unfold thv
 clear HC hx hl
 go_enter Tryz.func198,Tryz.ntmps198
 go_upto_region 1 with fail
 rw[←hW1]
 clear hW1
 obtain⟨n0,h0⟩:∃ n0,n0=w.heap.size:=⟨_,rfl⟩
 simp only[←h0] at HT ⊢
 have HN0:Hid (n0=w.heap.size):=h0
 clear h0
 have x0:=block_cell HT.out 0
 have x1:=block_cell HT.out 1
 have x2:=block_cell HT.out 2
 have x3:=block_cell HT.out 3
 have x4:=block_cell HT.out 4
 have x5:=block_cell HT.out 5
 have x6:=block_cell HT.out 6
 have x7:=block_cell HT.out 7
 have x8:=block_cell HT.out 8
 have x9:=block_cell HT.out 9
 have x10:=block_cell HT.out 10
 go_wp2_with fail
 refine HC1.mono ?_
 rintro e w2 ⟨u,rfl,o2,g2⟩
 have HPs:Hid (PsAt w2 u ps):=o2.at
 obtain⟨a2,k2,rfl⟩:=o2.at.form
 obtain⟨W3,hW3⟩:∃ W3,W3=w2.alloc (.cells (ccs h (.slice a2 ps.length k2)) 54):=⟨_,rfl⟩
 have HG3:Hid (w.grownBy W3 none):=by rw[hW3];exact grown_push (grown_trans HG1.out g2) _
 have HP3:Hid (PsAt W3 (.slice a2 ps.length k2) ps):=by rw[hW3];exact HPs.out.keep (World.grownBy_alloc _ _ none)
 have HK:Hid (W3.heap[w2.heap.size]?=some (.cells (ccs h (.slice a2 ps.length k2)) 54 (0,0))):=by rw[hW3];exact alloc_at _ _ _
 unfold ccs at hW3
 clear HC1 o2 g2 HT HG1 HPs x0 x1 x2 x3 x4 x5 x6 x7 x8 x9 x10
 go_upto_region 2 with fail
 rw[←hW3]
 clear hW3
 obtain⟨kk,hk⟩:∃ kk,kk=w2.heap.size:=⟨_,rfl⟩
 rw[←hk] at HK ⊢
 clear hk
 have q8:=block_cell HK.out 8
 simp only[ccs] at q8
 by_cases hx:x=0
 case neg =>
  have hps:=HX.out hx
  have HE:Hid (OwT W3 n0 (.slice none 0 0) (plF ps 0 m)):=by rw[hps];exact OwT.nil _ _
  have e1:(x != 0)=true:=by simpa using hx
  clear hx hps HP3
  go_wp2
  go_ret2
  rw[←HN0.out]
  exact⟨_,rfl,HE.out,HG3.out⟩
 subst hx
 clear HX
 obtain⟨n,hn⟩:∃ n,n=ps.length:=⟨_,rfl⟩
 have HNn:Hid (n=ps.length):=hn
 simp only[←hn] at HP3 HK q8 ⊢
 clear hn
 go_wp2_with fail
 obtain⟨n3,hn3⟩:∃ n3,n3=W3.heap.size:=⟨_,rfl⟩
 have HN3:Hid (n3=W3.heap.size):=hn3
 clear hn3
 go_loopw [10,11,12,25] (fun v _ _ i wr=>∃ k:Nat,k≤n∧i=.int .i64 (k:Int)∧OwT wr n3 v (plF (ps.take k) 0 m)∧W3.grownBy wr none) (fun _ _ _ i _=>n - (intOf i).toNat)
 case atStart=>exact⟨0,Nat.zero_le _,rfl,OwT.nil _ _,grown_refl _ _⟩
 case round =>
  obtain⟨k,hk,rfl,O,G⟩:=hrel
  obtain⟨U,hU⟩:∃ U,U=wr:=⟨_,rfl⟩
  subst hU
  obtain⟨q,cq,rfl⟩:=O.form
  have q8':=G.cell q8 (by simp)
  by_cases hlt:k<n
  ·obtain⟨g,off,cap,ea,R⟩:=HP3.out.part (by have:=HNn.out;omega)
   have ea1:a2=some ⟨g,off,none⟩:=by injection ea
   clear ea
   subst ea1
   obtain⟨pt,hpt⟩:∃ pt,ps[k]?=some pt:=⟨_,List.getElem?_eq_getElem (by have:=HNn.out;omega)⟩
   obtain⟨d0,d1,d2,d3,d4,d5,d6,d7⟩:=(R k pt hpt).keep G
   have HO:Hid (U.ownsRow n3 3 1 (.slice q (plF (ps.take k) 0 m).length cq) (plF (ps.take k) 0 m).length (ints (plF (ps.take k) 0 m))):=O
   have HG:Hid (W3.grownBy U none):=G
   have HT:=plF_take (m:=m) hpt
   have hlen:(plF (ps.take k) 0 m).length≤4:=Nat.le_trans (plF_len _ _ _) (by rw[List.length_take];have:=HL.out;omega)
   have hwk:wrap64 ((k:Int)+1)=(k:Int)+1:=by have:=HL.out;have:=HNn.out;unfold wrap64;omega
   obtain⟨l,hll⟩:∃ l,l=plF (ps.take k) 0 m:=⟨_,rfl⟩
   rw[←hll] at HO hlen HT ⊢
   obtain⟨j,hj⟩:∃ j,j=l.length:=⟨_,rfl⟩
   rw[←hj] at HO hlen ⊢
   have HN:Hid (j=l.length):=hj
   have HLm:Hid (j+1≤maxLen∧(j+1)*8≤140737488355328):=by show _∧_;unfold maxLen;omega
   have HP:Hid (k+1≤n):=hlt
   have HM:Hid (n - (intOf (.int .i64 ((k:Int)+1))).toNat<n - (intOf (.int .i64 (k:Int))).toNat):=meas_next hlt
   have hlt':(k:Int)<(n:Int):=by omega
   have hk0:(0:Int)≤(k:Int):=by omega
   have HSz:Hid (n3≤U.heap.size):=by show n3≤_;rw[HN3.out];exact HG.out.size
   have HOL:Hid (∀ y,(Value.slice q j cq).ownBlock=some y→W3.heap.size≤y):=fun y e=>by have:=(World.ownsRow.lt HO.out y e).1;rw[←HN3.out];exact this
   clear R O G hll hj hlen hk hpt
   by_cases hw:pt.wn=m
   ·have HY:Hid (plF (ps.take (k+1)) 0 m=l++[(k:Int)]):=by rw[if_pos hw] at HT;exact HT
    have e2:(pt.wn == m)=true:=by simpa using hw
    clear HT hw
    go_wp2_with (first | (at_builtin;go_loud (refine wpList_append_own _ rfl (.tmp 34) (.tmp 36) 139 rfl n3 3 i0 _ 1 8 Tryz.underlying139 hi hz0 hz1 hz2 rfl (by decide) _ j (ints l) rfl (World.ownsRow.alloc (World.ownsRow.alloc HO.out _) _) ⟨U.heap.size+1,0,none⟩ 1 1 (ints [(k:Int)]) rfl rfl (one_newT2 _ _ _) (ints_oneT _) HLm.out.1 (by have:=HLm.out.2;omega) (by rw[World.size_alloc,World.size_alloc];have:=HSz.out;omega) ?_;intro v3 w3 o3 g3 _;have HO3:Hid (OwT w3 n3 v3 (l++[(k:Int)])):=own_moreT o3 HN.out;have HG4:Hid (W3.grownBy w3 none):=grown_own (grown_push (grown_push HG.out _) _) g3 (fun x e=>HOL.out x e);clear o3 g3)) | fail)
    go_roundw
    case rel=>exact⟨k+1,HP.out,by first | rfl | (rw[hwk];rfl) | go_num,by rw[HY.out];exact HO3.out,HG4.out⟩
    case measure=>first | exact HM.out | (rw[hwk];exact HM.out)
   ·have HY:Hid (plF (ps.take (k+1)) 0 m=l):=by rw[if_neg hw] at HT;exact HT
    have e2:(pt.wn == m)=false:=by simpa using hw
    clear HT hw
    go_wp2_with fail
    go_roundw
    case rel=>exact⟨k+1,HP.out,by first | rfl | (rw[hwk];rfl) | go_num,by rw[HY.out];unfold OwT;rw[←HN.out];exact World.ownsRow.alloc HO.out _,grown_push HG.out _⟩
    case measure=>first | exact HM.out | (rw[hwk];exact HM.out)
  ·have hkn:k=n:=by omega
   have HF:Hid (OwT U n0 (.slice q (plF (ps.take k) 0 m).length cq) (plF ps 0 m)∧w.grownBy U none):=⟨by rw[hkn,HNn.out,List.take_length] at O ⊢;exact own_lowT O (by rw[HN0.out,HN3.out];exact HG3.out.size),grown_trans HG3.out G⟩
   have hlt':¬(k:Int)<(n:Int):=by omega
   clear O G hkn hk
   go_wp2
   go_ret2
   rw[←HN0.out]
   exact⟨_,rfl,HF.out⟩
theorem plF_memS:∀ (ps:List Pt) (i:Nat) (m x:Int),x∈plF ps i m→∃ q:Nat,x=((i+q:Nat):Int)∧q<ps.length∧(ps.getD q Pt.none).wn=m
 | [],_,_,_,h=>by cases h
 | p :: ps,i,m,x,h=>by
  unfold plF at h
  have hrec:=fun z=>plF_memS ps (i+1) m x z
  split at h
  ·rename_i hw
   rcases List.mem_cons.1 h with h | h
   ·exact⟨0,by simpa using h,by simp,by simpa using hw⟩
   ·obtain⟨q,a,b,c⟩:=hrec h
    exact⟨q+1,by rw[a];congr 1;omega,by simpa using b,by simpa using c⟩
  ·obtain⟨q,a,b,c⟩:=hrec h
   exact⟨q+1,by rw[a];congr 1;omega,by simpa using b,by simpa using c⟩
theorem plF_few (ps:List Pt) (m:Int) (h:ps.length≤4):(plF ps 0 m).length≤4:=Nat.le_trans (plF_len _ _ _) h
def mkS (nu:Int) (ps:List Pt) (i:Int):Sd:=⟨nu,i,ps.getD i.toNat Pt.none⟩
def swU (nu:Int) (ps:List Pt) (k:Nat):List Sd:=((plF ps 0 6).take k).map (mkS nu ps)
theorem swU_all (nu:Int) (ps:List Pt):swU nu ps (plF ps 0 6).length=swRow nu ps:=by unfold swU;rw[List.take_length];rfl
theorem swU_next {nu:Int} {ps:List Pt} {k:Nat} {x:Int} (h:(plF ps 0 6)[k]?=some x):swU nu ps (k+1)=swU nu ps k++[mkS nu ps x]:=by unfold swU;rw[List.take_add_one,h,List.map_append];rfl
theorem swU_len {nu:Int} {ps:List Pt} {k:Nat} (h:k≤(plF ps 0 6).length):(swU nu ps k).length=k:=by unfold swU;rw[List.length_map,List.length_take];omega
def SCard (w:World) (bv:Value) (n:Int) (cd:Int→Hd×List Pt):Prop:=∀ X t,w.grownBy X none→1≤t.card→t.card≤n→Calls Tryz.prog 197 #[bv,thv t] X (CrPost (cd t.card).1 (cd t.card).2 0 X)
theorem SCard.keep {w w':World} {bv:Value} {n:Int} {cd:Int→Hd×List Pt} (h:SCard w bv n cd) (g:w.grownBy w' none):SCard w' bv n cd:=fun X t q=>h X t (grown_trans g q)
theorem sd_room {m k n:Nat} (h:m=k) (hk:k<n) (hn:n≤4):m+1≤maxLen∧(m+1)*56≤140737488355328:=⟨by unfold maxLen;omega,by omega⟩
theorem sswapsOf_any (bv vt vf vl:Value) (n:Int) (cd:Int→Hd×List Pt) (ts:List Th) (j:Nat) (t:Th) (w:World) (A:thR.At w vt ts) (ht:ts[j]?=some t) (hl:ts.length≤2048) (C:SCard w bv n cd) (h1:1≤t.card) (h2:t.card≤n) (h4:(cd t.card).2.length≤4):Calls Tryz.prog 130 #[scnv bv vt vf vl,.int .i64 ((j:Int)+1)] w fun e w'=>∃ v,e=.returned v∧DOwn w' w.heap.size v (swRow ((j:Int)+1) (cd t.card).2)∧w.grownBy w' none:=by
 obtain⟨i0,hi,hz0,hz1,hz2⟩:=info_parts Tryz.linfoD
 obtain⟨pt,ct,rfl⟩:=A.form
 have hjl:j<ts.length:=(List.getElem?_eq_some_iff.1 ht).1
 obtain⟨h,hh⟩:∃ h,h=(cd t.card).1:=⟨_,rfl⟩
 obtain⟨ps,hps⟩:∃ ps,ps=(cd t.card).2:=⟨_,rfl⟩
 have hC:∀ X,w.grownBy X none→Calls Tryz.prog 197 #[bv,thv t] X (CrPost h ps 0 X):=fun X q=>by rw[hh,hps];exact C X t q h1 h2
 rw[←hps] at h4 ⊢
 obtain⟨V,hV⟩:∃ V,V=w.alloc (.cells #[bv,.slice pt ts.length ct,vf,vl] 136):=⟨_,rfl⟩
 obtain⟨X,hX⟩:∃ X,X=V.alloc (.cells #[.int .i64 t.card,.int .i64 t.owner,.int .u8 t.place,.int .i64 t.stamp,.int .i64 t.hurt,.int .i64 t.m0,.int .i64 t.m1,.int .i64 t.m2,.int .i64 t.m3,.int .i64 t.done,.bool t.fresh] 100):=⟨_,rfl⟩
 have HV:Hid (ScnB X w.heap.size bv (.slice pt ts.length ct) vf vl∧w.grownBy X none∧ThB X V.heap.size t∧w.grownBy V none):=by
  have gr:w.grownBy V none:=by rw[hV];exact World.grownBy_alloc _ _ none
  have g2:V.grownBy X none:=by rw[hX];exact World.grownBy_alloc _ _ none
  exact⟨grown_keep g2 (by rw[hV];exact alloc_at _ _ _) (by simp),grown_trans gr g2,by rw[hX];exact alloc_at _ _ _,gr⟩
 have z1:((j:Int))<(ts.length:Int):=Int.ofNat_lt.2 hjl
 have wz:wrap64 (j:Int)=(j:Int):=by unfold wrap64;omega
 have wz2:IntKind.i64.wrap (j:Int)=(j:Int):=by rw[IntWalk.i64_in _ (by omega)]
 obtain⟨gT,oT,cT,eT,-⟩:=th_there A hjl
 injection eT with eT eT2 eT3
 clear eT2 eT3
 subst eT
 obtain⟨s0,s1,s2,s3,s4,s5,s6,s7,s8,s9,s10⟩:=th_cells (rec_thV (A.keep HV.out.2.2.2) ht)
 have CC:=hC X HV.out.2.1
 have HCs:Hid (∀ Y,X.grownBy Y none→Calls Tryz.prog 198 #[bv,thv t,.int .u8 6] Y fun e w'=>∃ v,e=.returned (.tuple #[v,.int .i64 0])∧OwT w' Y.heap.size v (plF ps 0 6)∧Y.grownBy w' none):=fun Y q=>tparts_of bv t h ps 0 6 Y (fun q=>absurd rfl q) h4 (fun Z qz=>hC Z (grown_trans (grown_trans HV.out.2.1 q) qz))
 have H4:Hid (ps.length≤4):=h4
 have HS:Hid (ScnB V w.heap.size bv (.slice (some ⟨gT,oT,none⟩) ts.length ct) vf vl):=by rw[hV];exact alloc_at _ _ _
 unfold CrPost cv thv at CC
 unfold scnv
 clear A ht hl C h1 h2 h4 hC hh hps hjl
 go_enter Tryz.func130,Tryz.ntmps130
 go_upto_region 1 with fail
 rw[←hV]
 clear hV
 obtain⟨n0,hn0⟩:∃ n0,n0=w.heap.size:=⟨_,rfl⟩
 rw[←hn0] at HV HS ⊢
 have Hn0:Hid (n0=w.heap.size):=hn0
 clear hn0
 obtain⟨c0,c1,c2,c3⟩:=scn_box HS.out
 go_upto_region 2 with fail
 rw[←hX]
 obtain⟨n1,hn1⟩:∃ n1,n1=V.heap.size:=⟨_,rfl⟩
 rw[←hn1] at HV ⊢
 clear hX hn1 s0 s1 s2 s3 s4 s5 s6 s7 s8 s9 s10 c0 c1 c2 c3
 obtain⟨c0,c1,c2,c3⟩:=scn_box HV.out.1
 obtain⟨s0,s1,s2,s3,s4,s5,s6,s7,s8,s9,s10⟩:=th_box HV.out.2.2.1
 go_wp2_with fail
 refine CC.mono ?_
 rintro e2 w2 ⟨u,rfl,o2,g2⟩
 have HPs:Hid (PsAt w2 u ps):=o2.at
 obtain⟨a2,k2,rfl⟩:=o2.at.form
 obtain⟨Y,hY⟩:∃ Y,Y=w2.alloc (.cells (ccs h (.slice a2 ps.length k2)) 54):=⟨_,rfl⟩
 have HY:Hid (Y.heap[w2.heap.size]?=some (.cells (ccs h (.slice a2 ps.length k2)) 54 (0,0))∧PsAt Y (.slice a2 ps.length k2) ps∧X.grownBy Y none):=by
  have gr:w2.grownBy Y none:=by rw[hY];exact World.grownBy_alloc _ _ none
  exact⟨by rw[hY];exact alloc_at _ _ _,HPs.out.keep gr,grown_trans g2 gr⟩
 unfold ccs at hY
 clear CC o2 g2 HPs
 go_upto_region 3 with fail
 rw[←hY]
 obtain⟨n2,hn2⟩:∃ n2,n2=w2.heap.size:=⟨_,rfl⟩
 rw[←hn2] at HY ⊢
 clear hY hn2
 have c0:=HY.out.2.2.cell c0 (by simp)
 have s0:=HY.out.2.2.cell s0 (by simp)
 have s1:=HY.out.2.2.cell s1 (by simp)
 have s2:=HY.out.2.2.cell s2 (by simp)
 have s3:=HY.out.2.2.cell s3 (by simp)
 have s4:=HY.out.2.2.cell s4 (by simp)
 have s5:=HY.out.2.2.cell s5 (by simp)
 have s6:=HY.out.2.2.cell s6 (by simp)
 have s7:=HY.out.2.2.cell s7 (by simp)
 have s8:=HY.out.2.2.cell s8 (by simp)
 have s9:=HY.out.2.2.cell s9 (by simp)
 have s10:=HY.out.2.2.cell s10 (by simp)
 have CP:=HCs.out Y HY.out.2.2
 unfold thv at CP
 clear HCs
 go_wp2_with fail
 refine CP.mono ?_
 rintro e3 w3 ⟨v3,rfl,o3,g3⟩
 obtain⟨P,hP⟩:∃ P,P=plF ps 0 6:=⟨_,rfl⟩
 have HP:Hid (P=plF ps 0 6):=hP
 rw[←hP] at o3
 obtain⟨p3,k3,rfl⟩:=o3.form
 have H3:Hid (OwT w3 Y.heap.size (.slice p3 P.length k3) P∧PsAt w3 (.slice a2 ps.length k2) ps∧w3.heap[n2]?=some (.cells (ccs h (.slice a2 ps.length k2)) 54 (0,0))∧w.grownBy w3 none):=⟨o3,HY.out.2.1.keep g3,grown_keep g3 HY.out.1 (by simp),grown_trans (grown_trans HV.out.2.1 HY.out.2.2) g3⟩
 clear CP o3 g3 hP HY HV c0 c1 c2 c3 s0 s1 s2 s3 s4 s5 s6 s7 s8 s9 s10
 obtain⟨B,hB⟩:∃ B,B=w3.heap.size:=⟨_,rfl⟩
 have HB:Hid (B=w3.heap.size):=hB
 clear hB
 obtain⟨M,hM⟩:∃ M,M=P.length:=⟨_,rfl⟩
 have HMl:Hid (M=P.length):=hM
 rw[←hM]
 clear hM
 go_wp2_with fail
 go_loopw [10,35] (fun v i wr=>∃ (k:Nat) (p:Option Addr) (c:Nat),k≤M∧i=.int .i64 (k:Int)∧v=.slice p k c∧Hid (DOwn wr B (.slice p k c) (swU ((j:Int)+1) ps k)∧w3.grownBy wr none)) (fun _ i _=>M - (intOf i).toNat)
 case atStart=>exact⟨0,none,0,Nat.zero_le _,rfl,rfl,RecT.Own.nil _ _ _ _,grown_refl _ _⟩
 case round =>
  obtain⟨k,p,c,hk',rfl,rfl,HK⟩:=hrel
  obtain⟨U,hU⟩:∃ U,U=wr:=⟨_,rfl⟩
  subst hU
  by_cases hi2:k<M
  ·have i1:(k:Int)<(M:Int):=Int.ofNat_lt.2 hi2
   have hk0:k<P.length:=by rw[←HMl.out];exact hi2
   have hM4:M≤4:=by rw[HMl.out,HP.out];exact plF_few ps 6 H4.out
   have hwk:=wrap_next (k:=k) (by omega)
   have HM:Hid (M - (intOf (.int .i64 ((k:Int)+1))).toNat<M - (intOf (.int .i64 (k:Int))).toNat):=meas_k hi2
   obtain⟨x,hx⟩:∃ x,P[k]?=some x:=⟨_,List.getElem?_eq_getElem hk0⟩
   obtain⟨q,e1,hq,-⟩:=plF_memS ps 0 6 x (by rw[←HP.out];exact List.mem_of_getElem? hx)
   rw[Nat.zero_add] at e1
   subst e1
   obtain⟨gP,cP,eP,_,_,_,_,hcP⟩:=own_cell H3.out.1 (by omega)
   injection eP with eP eP2 eP3
   clear eP2 eP3
   subst eP
   have y0:U.cell? ⟨gP,k,none⟩=some (.int .i64 (q:Int)):=HK.out.2.cell ((hcP k (by omega)).1.trans (by rw[ints_at P k hk0];rw[List.getElem?_eq_getElem hk0] at hx;injection hx with hx;rw[List.getD_eq_getElem?_getD,List.getElem?_eq_getElem hk0];simp[hx])) (by simp)
   obtain⟨pp,hpp⟩:∃ pp,ps[q]?=some pp:=⟨_,List.getElem?_eq_getElem hq⟩
   obtain⟨gQ,oQ,cQ,eQ,RQ⟩:=H3.out.2.1.part (by omega)
   have eQ1:a2=some ⟨gQ,oQ,none⟩:=by injection eQ
   clear eQ
   subst eQ1
   obtain⟨d0,d1,d2,d3,d4,d5,d6,d7⟩:=(RQ q pp hpp).keep HK.out.2
   have q8:=HK.out.2.cell (block_cell H3.out.2.2.1 8) (by simp)
   simp only[ccs] at q8
   have q1:(q:Int)<(ps.length:Int):=Int.ofNat_lt.2 hq
   have q0:(0:Int)≤(q:Int):=by omega
   have HN:Hid (swU ((j:Int)+1) ps (k+1)=swU ((j:Int)+1) ps k++[⟨(j:Int)+1,(q:Int),pp⟩]):=by
    show _=_
    rw[swU_next (by rw[←HP.out];exact hx)]
    unfold mkS
    rw[Int.toNat_natCast,List.getD_eq_getElem?_getD,hpp]
    rfl
   obtain⟨e,he⟩:∃ e:Sd,e=⟨(j:Int)+1,(q:Int),pp⟩:=⟨_,rfl⟩
   have HO:Hid (U.ownsRow B 40 10 (.slice p k c) k (sdR.cs (swU ((j:Int)+1) ps k))):=by
    have:=HK.out.1
    unfold DOwn RecT.Own at this
    rw[swU_len (by rw[←HP.out];omega)] at this
    exact this
   have HLn:Hid (k+1≤maxLen∧(k+1)*56≤140737488355328∧B≤(U.alloc (.cells (sdc e).toArray 40)).heap.size):=by
    have:=sd_room rfl hi2 hM4
    exact⟨this.1,this.2,by rw[HB.out];exact(grown_push HK.out.2 _).size⟩
   have HSr:Hid (Src (U.alloc (.cells (sdc e).toArray 40)) (.slice (some ⟨U.heap.size,0,none⟩) 1 1) 1 10 (sdc e)):=sd_src U e
   have HKk:Hid (k+1≤M∧(swU ((j:Int)+1) ps k).length=k∧w3.grownBy U none):=⟨hi2,swU_len (by rw[←HP.out];omega),HK.out.2⟩
   rw[←he] at HN
   subst he
   clear hk' hi2 hk0 hM4 hx hq hcP hpp RQ HK
   unfold sdc at HLn HSr
   go_upto_region 9 with (at_builtin;refine lwpl_app (by rfl) (.tmp 39) (.tmp 48) 27 rfl B 40 i0 _ 10 56 Tryz.underlying27 hi hz0 hz1 hz2 rfl (by decide) _ k (sdR.cs (swU ((j:Int)+1) ps k)) rfl (World.ownsRow.alloc HO.out _) _ 1 (sdc ⟨(j:Int)+1,(q:Int),pp⟩) rfl HSr.out (sdc_ones _) HLn.out.1 HLn.out.2.1 HLn.out.2.2 ?_;intro v9 w9 o9 g9 _;obtain⟨pv,kv,rfl,-⟩:=own_slice o9;have HO9:Hid _:=o9;have HG9:Hid _:=g9;clear o9 g9)
   have HZ:Hid (DOwn w9 B (.slice pv (k+1) kv) (swU ((j:Int)+1) ps (k+1))∧w3.grownBy w9 none):=by
    refine⟨?_,grown_own (grown_trans HKk.out.2.2 (World.grownBy_alloc U _ none)) HG9.out (fun y e=>by rw[←HB.out];exact(World.ownsRow.lt HO.out y e).1)⟩
    rw[HN.out]
    exact RecT.more HO9.out HKk.out.2.1.symm
   clear HO9 HG9 HO HSr HLn HN
   go_wp2_with fail
   go_roundw
   case rel=>exact⟨k+1,pv,kv,HKk.out.1,by first | rfl | (rw[hwk];rfl) | go_num,rfl,HZ.out⟩
   case measure=>first | exact HM.out | (rw[hwk];exact HM.out)
  ·obtain rfl:k=M:=Nat.le_antisymm hk' (Nat.le_of_not_lt hi2)
   have i1:¬(k:Int)<(k:Int):=Int.lt_irrefl _
   have HF:Hid (DOwn U w.heap.size (.slice p k c) (swRow ((j:Int)+1) ps)∧w.grownBy U none):=by
    have:=HK.out.1
    rw[show swU ((j:Int)+1) ps k=swRow ((j:Int)+1) ps from by rw[HMl.out,HP.out];exact swU_all _ _] at this
    exact⟨own_big this (by rw[HB.out];exact H3.out.2.2.2.size),grown_trans H3.out.2.2.2 HK.out.2⟩
   clear hk' hi2 HK
   go_wp2_with fail
   go_ret
   exact⟨_,rfl,HF.out⟩
end Go.Proofs.YthfjgpjcepmnmaaGreat
