import Derived.Test.YthfjgpjcepmnmaaGreatO31
import Derived.Test.YthfjgpjcepmnmaaGreatO26
import Derived.Test.YthfjgpjcepmnmaaGreatBoB
import Derived.Test.YthfjgpjcepmnmaaGreatO27
import Derived.Test.YthfjgpjcepmnmaaGreatO29
import Derived.Test.YthfjgpjcepmnmaaGreatO21
import Derived.Shelf.SlSortCmp.NoneTotal
import Derived.Lib.RowBridge
import Derived.Lib.SortBridge
import Derived.Test.YthfjgpjcepmnmaaGreatO0
import Derived.BigQuiet
namespace Go.Proofs.YthfjgpjcepmnmaaGreat
open Go.RowKit Go.Shelf
theorem Tab.app {n:Int} {cd:Int→Hd×List Pt} {ts:List Th} {fs:List Fe} {R:List Rw} {F:List Fe} {k:Int} {a:Se} {w w':World} {e:Ending} (h:Tab n cd ts fs R) (ha:a∈dc R F k) (q:xY w 0 n cd ts fs a.s e w'):∃ p c,e=.returned (.tuple #[.slice p (dN fs R (bp R (au R fs) a)).length c,.int .i64 0])∧w.grownBy w' none∧bO w' w.heap.size (.slice p (dN fs R (bp R (au R fs) a)).length c) (dN fs R (bp R (au R fs) a)):=by
 obtain⟨p,m,c,e1,g,_,h1⟩:=q
 have o:=h1 R a rfl h.tab (h.one ha)
 rw[kJ h.tab (h.one ha)] at e1
 obtain⟨p',c',e2⟩:=ay.Own.form o
 cases e2
 exact⟨p,c,e1,g,o⟩
theorem Tab.abt {n:Int} {cd:Int→Hd×List Pt} {ts:List Th} {fs:List Fe} {R:List Rw} {F:List Fe} {k:Int} {a:Se} {w w':World} {e:Ending} (h:Tab n cd ts fs R) (ha:a∈dc R F k) (q:zb w 0 n cd ts fs a.s e w'):∃ p c,e=.returned (.tuple #[.slice p (eB R (bg R (au R fs) a)).length c,.int .i64 0])∧w.grownBy w' none∧aU w' w.heap.size (.slice p (eB R (bg R (au R fs) a)).length c) (eB R (bg R (au R fs) a)):=by
 obtain⟨p,m,c,e1,g,_,h1⟩:=q
 have o:=h1 R a rfl h.tab (h.one ha)
 rw[kJ h.tab (h.one ha)] at e1
 obtain⟨p',c',e2⟩:=aU.form o
 cases e2
 exact⟨p,c,e1,g,o⟩
theorem FiA.forms {w:World} {vc vm:Value} {cs:List Ent} {ms:List Mk} (h:FiA w vc vm cs ms):∃ a k a' k',vc=.slice a cs.length k∧vm=.slice a' ms.length k':=by
 obtain⟨a,k,e,_⟩:=h.c
 obtain⟨a',k',e',_⟩:=h.m
 exact⟨a,k,a',k',e,e'⟩
theorem Tab.effs {n:Int} {cd:Int→Hd×List Pt} {ts:List Th} {fs:List Fe} {R:List Rw} (h:Tab n cd ts fs R) (hc:∀ c,(cd c).2.length≤4) (F:List Fe) (k:Int):(dc R F k).length≤64:=by
 have hp:∀ i,(R.getD i Rw.none).ps.length≤4:=fun i=>by
  by_cases hi:i<R.length
  ·rw[aw hi]
   obtain⟨j,t,f,_,_,c⟩:=iJ _ _ _ (h.perm.mem_iff.1 (List.getElem_mem hi))
   rw[c]
   exact hc _
  ·rw[List.getD_eq_getElem?_getD,List.getElem?_eq_none (by omega)]
   exact Nat.zero_le _
 have:=iB (F:=F) (k:=k) hp R.length
 have:=h.few
 unfold dc
 omega


theorem Ca {w:World} {base:Nat} {v:Value} {l:List Int} (h:aU w base v l) {j:Nat} (hj:j<l.length):∃ g c,v=.slice (some ⟨g,0,none⟩) l.length c∧w.cell? ⟨g,j,none⟩=some (.int .i64 (l.getD j 0)):=by
 obtain⟨g,c,e,_,_,_,_,hc⟩:=em h (by omega)
 refine⟨g,c,e,(hc j (by omega)).1.trans ?_⟩
 unfold cD
 rw[List.getElem?_map,List.getElem?_eq_getElem hj,Option.map_some,aw hj]
end Go.Proofs.YthfjgpjcepmnmaaGreat
namespace Go.Proofs.YthfjgpjcepmnmaaGreat
set_option maxRecDepth 100000
set_option maxHeartbeats 2000000
open Go.RowKit
def onN:List Th→Nat→List Int
 | [],_=>[]
 | t :: r,i=>if t.place=4 then ((i:Int)+1) :: onN r (i+1) else onN r (i+1)
theorem sr:∀ (l:List Th) (i:Nat) (t:Th),onN (l++[t]) i=if t.place=4 then onN l i++[((i+l.length:Nat):Int)+1] else onN l i
 | [],i,t=>by
  simp only[List.nil_append,onN,List.length_nil,Nat.add_zero]
 | s :: l,i,t=>by
  have h:=sr l (i+1) t
  simp only[List.cons_append,onN,h,List.length_cons]
  rw[show i+1+l.length=i+(l.length+1) by omega]
  by_cases h1:s.place=4 <;> by_cases h2:t.place=4 <;> simp[h1,h2]
theorem sg {ts:List Th} {k:Nat} {t:Th} (ht:ts[k]?=some t):onN (ts.take (k+1)) 0=if t.place=4 then onN (ts.take k) 0++[(k:Int)+1] else onN (ts.take k) 0:=by
 have hk:=(List.getElem?_eq_some_iff.1 ht).1
 rw[List.take_add_one,ht,show (some t).toList=[t] from rfl,sr,List.length_take,Nat.zero_add,Nat.min_eq_left (by omega)]
theorem oX:∀ (l:List Th) (i:Nat),(onN l i).length≤l.length
 | [],_=>Nat.le_refl _
 | t :: l,i=>by
  have:=oX l (i+1)
  unfold onN
  split <;> simp <;> omega
theorem AJ:∀ (l:List Th) (i:Nat) (n:Int),n∈onN l i→(i:Int)+1≤n∧n≤((i+l.length:Nat):Int)
 | [],_,n,h=>by cases h
 | t :: l,i,n,h=>by
  unfold onN at h
  have q:=AJ l (i+1) n
  rw[List.length_cons]
  split at h
  ·rcases List.mem_cons.1 h with h | h
   ·omega
   ·have:=q h;omega
  ·have:=q h;omega
theorem te {cd:Int→Hd×List Pt}:∀ (ts:List Th) (F:List Fe) (i:Nat),ts.length=F.length→(et cd (ts.zip F) i).map Rw.nu=onN ts i
 | [],_,_,_=>by simp[et,onN]
 | t :: ts,[],_,h=>by simp at h
 | t :: ts,f :: F,i,h=>by
  have q:=te (cd:=cd) ts F (i+1) (by simpa using h)
  rw[List.zip_cons_cons]
  by_cases h4:t.place=4
  ·rw[dX h4,List.map_cons,q];show _=(if t.place=4 then _ else _);rw[if_pos h4]
  ·rw[gd h4,q];show _=(if t.place=4 then _ else _);rw[if_neg h4]
theorem wO {f:Int→Int}:∀ {l m:List Int},l.Perm m→(l.Pairwise fun a b=>f a≤f b)→(m.Pairwise fun a b=>f a<f b)→l=m
 | [],m,h,_,_=>(List.nil_perm.1 h).symm
 | a :: l,[],h,_,_=>by have:=h.length_eq;simp at this
 | a :: l,b :: m,h,h1,h2=>by
  rw[List.pairwise_cons] at h1 h2
  have e:a=b:=by
   rcases List.mem_cons.1 (h.mem_iff.1 List.mem_cons_self) with e | q
   ·exact e
   ·rcases List.mem_cons.1 (h.mem_iff.2 List.mem_cons_self) with e | q'
    ·exact e.symm
    ·have:=h1.1 b q';have:=h2.1 a q;omega
  subst e
  rw[wO h.cons_inv h1.2 h2.2]
theorem Tab.nums {n:Int} {cd:Int→Hd×List Pt} {ts:List Th} {F:List Fe} {R:List Rw} (h:Tab n cd ts F R) {l:List Int} (hp:l.Perm (onN ts 0)) (hs:l.Pairwise fun a b=>fB ts a≤fB ts b):l=R.map Rw.nu:=by
 have p2:(onN ts 0).Perm (R.map Rw.nu):=by rw[←te (cd:=cd) ts F 0 h.len];exact(h.perm.map Rw.nu).symm
 refine wO (hp.trans p2) hs ?_
 rw[List.pairwise_map,List.pairwise_iff_getElem]
 intro i j hi hj hij
 have q:=(List.pairwise_iff_getElem.1 h.up) i j hi hj hij
 have a:=(h.thing hi).2.1
 have b:=(h.thing hj).2.1
 rw[aw hi] at a
 rw[aw hj] at b
 rw[a,b]
 exact q
theorem rE {N:Nat}:∀ (l:List Int),(∀ n∈l,1≤n∧n≤(N:Int))→∃ D:List (Fin N),D.map (fun i=>(i.val:Int)+1)=l
 | [],_=>⟨[],rfl⟩
 | n :: l,h=>by
  obtain⟨D,hD⟩:=rE l fun m hm=>h m (List.mem_cons_of_mem _ hm)
  have h1:=h n List.mem_cons_self
  refine⟨⟨(n - 1).toNat,by omega⟩ :: D,?_⟩
  rw[List.map_cons,hD]
  congr 1
  show (((n - 1).toNat:Nat):Int)+1=n
  omega
def jM {N:Nat} (i:Fin N):Value:=.int .i64 ((i.val:Int)+1)
def l9 {N:Nat} (ts:List Th) (i:Fin N):Int:=fB ts ((i.val:Int)+1)
def xW {N:Nat} (ts:List Th) (i j:Fin N):Int:=Lib.compareInt (l9 ts i) (l9 ts j)
theorem BW {N:Nat} (ts:List Th) (i j:Fin N):Go.Proofs.ltOf (xW ts) i j=decide (l9 ts i<l9 ts j):=by
 unfold Go.Proofs.ltOf xW Lib.compareInt
 by_cases h1:l9 ts i<l9 ts j
 ·simp[h1]
 ·by_cases h2:l9 ts j<l9 ts i <;> simp[h1,h2]
theorem FK {N:Nat} [Inhabited (Fin N)] (ts:List Th):Go.Sort.SWO (Go.Proofs.ltOf (xW (N:=N) ts)) where
 irrefl x:=by rw[BW];simp
 trans x y z h1 h2:=by rw[BW] at *;simp at *;omega
 ntrans x y z h1 h2:=by rw[BW] at *;simp at *;omega
theorem od {N:Nat} (D:List (Fin N)):D.map jM=cD (D.map fun i=>(i.val:Int)+1):=by
 unfold cD
 rw[List.map_map]
 rfl
theorem qR {N:Nat} [Inhabited (Fin N)] {ts:List Th} {d:Array (Fin N)} {n:Nat} (hn:d.size=n) (h:Go.Sort.SortedIn (Go.Proofs.ltOf (xW ts)) 0 n d):(d.toList.map fun i=>(i.val:Int)+1).Pairwise fun a b=>fB ts a≤fB ts b:=by
 rw[List.pairwise_map,List.pairwise_iff_getElem]
 intro i j hi hj hij
 have hi':i<d.size:=by simpa using hi
 have hj':j<d.size:=by simpa using hj
 have:=h i j (Nat.zero_le _) hij (by omega)
 rw[BW] at this
 simp[hi',hj'] at this
 simp
 exact this
theorem uL {N:Nat} [Inhabited (Fin N)] {d d':Array (Fin N)} (h:Go.Sort.PermIn 0 d.size d d'):d'.toList.Perm d.toList:=by
 obtain⟨h1,_,h2⟩:=h
 have e1:(d'.extract 0 d.size).toList=d'.toList:=by rw[←h1];simp
 have e2:(d.extract 0 d.size).toList=d.toList:=by simp
 rw[e1,e2] at h2
 exact h2
theorem ri {α:Type} [Inhabited α] (enc:α→Value) (w:World) (g m:Nat) (d:Array α) (os:Array Obj) (a:Addr) (hg:a.block≠g) (hs:a.block<w.heap.size):(Go.Proofs.sortWorld enc w g 0 m d os).cell? a=w.cell? a:=by
 unfold Go.Proofs.sortWorld
 rw[Go.Sort.cell?_grow _ _ _ (by rw[Go.Sort.size_putRow];exact hs),Go.Sort.cell?_putRow_other _ _ _ _ _ _ (Or.inl hg),Go.Sort.cell?_ahead]
theorem ua (W:World) (b g off len cap i j:Nat) (sx sy:Int) (hi:i<len) (hj:j<len) (hl:len≤2048) (c0:W.cell? ⟨b,1,none⟩=some (.slice (some ⟨g,off,none⟩) len cap)) (cx:W.cell? ⟨g,off+i*11+3,none⟩=some (.int .i64 sx)) (cy:W.cell? ⟨g,off+j*11+3,none⟩=some (.int .i64 sy)):Calls Tryz.prog 195 #[.int .i64 ((i:Int)+1),.int .i64 ((j:Int)+1),.pointer (some ⟨b,0,none⟩)] W fun e w'=>e=.returned (.int .i64 (Lib.compareInt sx sy))∧∃ q,w'=W.drewN q:=by
 have hcon:=AnyG.cmp_Compare_int Tryz.cmpL sx sy
 change ∀ w,Calls Tryz.prog 161 _ _ _ at hcon
 obtain⟨r,hr⟩:∃ r,r=Lib.compareInt sx sy:=⟨_,rfl⟩
 rw[←hr] at hcon ⊢
 clear hr
 have hw1:IntKind.i64.wrap (i:Int)=(i:Int):=IntWalk.i64_in _ (by omega)
 have hw2:IntKind.i64.wrap (j:Int)=(j:Int):=IntWalk.i64_in _ (by omega)
 have hi':(i:Int)<len:=by omega
 have hj':(j:Int)<len:=by omega
 go_enter Tryz.func195,Tryz.ntmps195
 go_wp2
 go_quiet ((go_at_call 161;exact Calls.quiet_of_same (hcon _)))
 go_wp2
 go_ret
 exact⟨rfl,nq,rfl⟩
def Ez (w0:World) (v:Value) (ts:List Th) (l:List Int) (e:Ending) (w':World):Prop:=e=.returned (.tuple #[])∧∃ l',l'.Perm l∧(l'.Pairwise fun a b=>fB ts a≤fB ts b)∧aU w' w0.heap.size v l'∧w0.grownBy w' none
theorem xG (w0 w:World) (b:Nat) (bv vt vf vl v:Value) (ts:List Th) (l:List Int) (S:bY w0 b bv vt vf vl) (T:thR.At w0 vt ts) (hf:ts.length≤2048) (G:w0.grownBy w none) (O:aU w w0.heap.size v l) (hl:∀ n∈l,1≤n∧n≤(ts.length:Int)) (hk:l.length≤4096):Calls Tryz.prog 194 #[v,.func (.func 195) #[] #[.pointer (some ⟨b,0,none⟩)]] w (Ez w0 v ts l):=by
 obtain⟨n,hn⟩:∃ n,n=l.length:=⟨_,rfl⟩
 by_cases h0:n=0
 ·have e1:l=[]:=List.length_eq_zero_iff.1 (by omega)
  subst e1
  obtain⟨p,cap,rfl⟩:=O.form
  have hS:=fun fv W=>AnyF.slices_SortFunc_none (P:=Tryz.prog) (ρ:=Tryz.sortL_ren) { Tryz.sortL with } p cap fv W
  change ∀ fv W,Calls Tryz.prog 194 _ _ _ at hS
  refine(hS _ _).mono ?_
  rintro e w' ⟨rfl,rfl⟩
  exact⟨rfl,[],List.Perm.refl _,List.Pairwise.nil,O,G⟩
 ·have hpos:0<l.length:=by omega
  obtain⟨g,cap,e1,hgb,hgs,_,_,_⟩:=em O hpos
  subst e1
  have hN:0<ts.length:=by
   have:=hl (l[0]'hpos) (List.getElem_mem hpos)
   omega
  obtain⟨pt,ct,rfl,_,hT⟩:=T
  obtain⟨gt,off,rfl,hR⟩:=hT hN
  obtain⟨D,hD⟩:=rE (N:=ts.length) l (fun m hm=>hl m hm)
  haveI:Inhabited (Fin ts.length):=⟨⟨0,hN⟩⟩
  have hDl:D.length=l.length:=by rw[←hD,List.length_map]
  have cc:=(aR S).2.1
  have O1:w.ownsRow w0.heap.size 3 1 (.slice (some ⟨g,0,none⟩) l.length cap) l.length (cD l):=O
  have cell0:∀ a x,w0.cell? a=some x→a.block<w0.heap.size:=fun a x h=>World.block_lt_of_cell? _ _ h
  have hcmp:CmpReads Tryz.prog 195 #[.pointer (some ⟨b,0,none⟩)] (jM (N:=ts.length)) (xW ts) g 0 D.toArray.size w:=by
   intro m os dk hs x y
   have keep:∀ a u,w0.cell? a=some u→(Go.Proofs.sortWorld jM w g 0 m dk os).cell? a=some u:=fun a u h=>by
    have:=cell0 a u h
    rw[ri jM w g m dk os a (by omega) (by have:=G.size;omega)]
    exact G.cell h (by simp)
   have hx:=x.isLt
   have hy:=y.isLt
   refine ua _ b gt off ts.length ct x.val y.val (l9 ts x) (l9 ts y) hx hy hf (keep _ _ cc) (keep _ _ ?_) (keep _ _ ?_)
   ·have:=hR x.val ts[x.val] (List.getElem?_eq_getElem hx) 3 _ rfl
    rw[show off+x.val*thR.k+3=off+x.val*11+3 from rfl] at this
    rw[this]
    unfold l9 fB
    rw[toN,List.getD_eq_getElem?_getD,List.getElem?_eq_getElem hx]
    rfl
   ·have:=hR y.val ts[y.val] (List.getElem?_eq_getElem hy) 3 _ rfl
    rw[show off+y.val*thR.k+3=off+y.val*11+3 from rfl] at this
    rw[this]
    unfold l9 fB
    rw[toN,List.getD_eq_getElem?_getD,List.getElem?_eq_getElem hy]
    rfl
  have hH:Go.Sort.Holds jM w g 0 D.toArray:=by
   intro j hj
   have hj':j<D.length:=by simpa using hj
   rw[Nat.zero_add]
   refine⟨?_,World.ownsRow.frozenAt O1 j⟩
   rw[World.ownsRow.cellAt O1 j (by omega),←hD,←od,List.getElem?_map]
   simp[hj']
  have eg:∀ args w,(callFunc 195 args).run Tryz.prog w=.ok (.enter 195 args) w:=enters_of Tryz.func195 (by kernel_rfl) rfl
  have hS:=Any.slices_SortFunc Tryz.sortL jM (fun _=>rfl) (xW ts) (FK ts) 195 #[.pointer (some ⟨b,0,none⟩)] g 0 cap D.toArray w eg hcmp.lays hH (by omega) (by simp;omega)
  change Calls Tryz.prog 194 _ _ _ at hS
  have hsz2:D.toArray.size=l.length:=by simp[hDl]
  rw[←hsz2]
  refine hS.mono ?_
  rintro e w' ⟨rfl,d',q,os,hp,hs,rfl⟩
  refine⟨rfl,?_⟩
  have hd:d'.size=D.toArray.size:=hp.1
  have hd2:d'.toList.length=l.length:=by rw[Array.length_toList,hd,hsz2]
  have ew:Go.Proofs.sortWorld jM w g 0 q d' os=Go.Sort.grow ((w.drewN q).setCells g 0 (d'.toList.map jM)) os:=by
   unfold Go.Proofs.sortWorld
   have:=Lib.sorted_world jM w g 0 q D.toArray d'.toList os hH (by rw[Array.length_toList];exact hd)
   rw[←this]
  rw[ew,od,hsz2]
  obtain⟨o2,g2⟩:=mV (q:=q) (os:=os) (vs:=cD (d'.toList.map fun i=>(i.val:Int)+1)) O1 (by rw[rm,List.length_map,Nat.mul_one];exact hd2)
  refine⟨_,?_,qR hd hs,?_,am G g2 (fun x e=>by cases e;exact hgb)⟩
  ·rw[←hD]
   have:=uL hp
   exact this.map _
  ·unfold aU
   rw[List.length_map,hd2]
   exact o2
set_option maxHeartbeats 4000000
theorem AP {ts:List Th} {n:Int} (h:¬1≤n):ej ts n=false:=by unfold ej;rw[decide_eq_false h,Bool.false_and]
theorem yP {ts:List Th} {n:Int} (h:¬n≤(ts.length:Int)):ej ts n=false:=by unfold ej;rw[decide_eq_false h,Bool.false_and,Bool.and_false]
theorem qv {ts:List Th} {j:Nat} {t:Th} (h:ts[j]?=some t):thN ts ((j:Int)+1)=t:=by unfold thN;rw[show ((j:Int)+1 - 1).toNat=j by omega,List.getD_eq_getElem?_getD,h];rfl
theorem Dr {ts:List Th} {j:Nat} {t:Th} (h:ts[j]?=some t):ej ts ((j:Int)+1)=decide (t.place=4):=by
 have hj:=(List.getElem?_eq_some_iff.1 h).1
 unfold ej
 rw[qv h,decide_eq_true (by omega),decide_eq_true (by omega),Bool.true_and,Bool.true_and]
theorem oW {ts:List Th} {n:Int} (h:ej ts n=true):∃ (j:Nat) (t:Th),n=(j:Int)+1∧ts[j]?=some t∧t.place=4:=by
 unfold ej at h
 simp only[Bool.and_eq_true,decide_eq_true_eq] at h
 obtain⟨h1,h2,h3⟩:=h
 have hj:(n - 1).toNat<ts.length:=by omega
 refine⟨(n - 1).toNat,ts[(n - 1).toNat],by omega,List.getElem?_eq_getElem hj,?_⟩
 unfold thN at h3
 rw[List.getD_eq_getElem?_getD,List.getElem?_eq_getElem hj] at h3
 exact h3
theorem pT (bv vt vf vl:Value) (ts:List Th) (n:Int) (w:World) (A:thR.At w vt ts) (hl:ts.length≤2048):Calls Tryz.prog 199 #[ch bv vt vf vl,.int .i64 n] w fun e w'=>e=.returned (.bool (ej ts n))∧w.grownBy w' none:=by
 obtain⟨pt,ct,rfl⟩:=A.form
 obtain⟨V,hV⟩:∃ V,V=w.alloc (.cells #[bv,.slice pt ts.length ct,vf,vl] 136):=⟨_,rfl⟩
 have HG:Hid (w.grownBy V none):=by rw[hV];exact World.grownBy_alloc _ _ none
 have HC:Hid (bY V w.heap.size bv (.slice pt ts.length ct) vf vl):=by rw[hV];exact ai w _ _
 unfold ch
 by_cases h1:1≤n
 ·by_cases h2:n≤(ts.length:Int)
  ·obtain⟨j,rfl⟩:∃ j:Nat,n=(j:Int)+1:=⟨(n - 1).toNat,by omega⟩
   have hjl:j<ts.length:=by omega
   obtain⟨t,ht⟩:∃ t,ts[j]?=some t:=⟨_,List.getElem?_eq_getElem hjl⟩
   have HR:Hid (ej ts ((j:Int)+1)=(t.place == 4)):=by show _=_;rw[Dr ht,dB]
   have d1:decide ((1:Int)≤(j:Int)+1)=true:=decide_eq_true h1
   have d2:decide ((j:Int)+1≤(ts.length:Int))=true:=decide_eq_true h2
   have z1:((j:Int))<(ts.length:Int):=Int.ofNat_lt.2 hjl
   have wz:wrap64 (j:Int)=(j:Int):=by unfold wrap64;omega
   have wz2:IntKind.i64.wrap (j:Int)=(j:Int):=by rw[IntWalk.i64_in _ (by omega)]
   obtain⟨gT,oT,cT,eT,-⟩:=bG A hjl
   injection eT with eT eT2 eT3
   clear eT2 eT3
   subst eT
   obtain⟨-,-,t2,-⟩:=bc (gh (A.keep HG.out) ht)
   clear A ht hl hjl h1 h2
   go_enter Tryz.func199,Tryz.ntmps199
   go_upto_region 1 with fail
   rw[←hV]
   clear hV
   obtain⟨-,c1,-,-⟩:=aR HC.out
   go_wp2
   go_ret
   exact⟨aJ HR.out.symm,HG.out⟩
  ·have HR:Hid (ej ts n=false):=yP h2
   have d1:decide (1≤n)=true:=decide_eq_true h1
   have d2:decide (n≤(ts.length:Int))=false:=decide_eq_false h2
   clear A hl h1 h2
   go_enter Tryz.func199,Tryz.ntmps199
   go_upto_region 1 with fail
   rw[←hV]
   clear hV
   obtain⟨-,c1,-,-⟩:=aR HC.out
   go_wp2
   go_ret
   exact⟨aJ HR.out.symm,HG.out⟩
 ·have HR:Hid (ej ts n=false):=AP h1
  have d1:decide (1≤n)=false:=decide_eq_false h1
  clear A hl h1
  go_enter Tryz.func199,Tryz.ntmps199
  go_upto_region 1 with fail
  rw[←hV]
  clear hV
  obtain⟨-,c1,-,-⟩:=aR HC.out
  go_wp2
  go_ret
  exact⟨aJ HR.out.symm,HG.out⟩
theorem tB (bv vt vf vl:Value) (ts:List Th) (h:Hp) (w:World) (A:thR.At w vt ts) (hl:ts.length≤2048):Calls Tryz.prog 131 #[ch bv vt vf vl,hpv h] w fun e w'=>e=.returned (.bool (bw ts h))∧w.grownBy w' none:=by
 obtain⟨pt,ct,rfl⟩:=A.form
 obtain⟨V,hV⟩:∃ V,V=(w.alloc (.cells #[bv,.slice pt ts.length ct,vf,vl] 136)).alloc (.cells #[.int .u8 h.vb,.int .i64 h.on,.int .i64 h.ct,.int .i64 h.ho,.bool h.vn,.bool h.dr] 43):=⟨_,rfl⟩
 have HG:Hid (w.grownBy V none):=by rw[hV];exact ak (World.grownBy_alloc _ _ none) _
 have HC:Hid (bY V w.heap.size bv (.slice pt ts.length ct) vf vl):=by rw[hV];exact ae (World.grownBy_alloc _ _ none) (ai w _ _) (by simp)
 have HH:Hid (HpB V (w.heap.size+1) h):=by rw[hV];exact aP _ _ _ _
 have HA:Hid (thR.At V (.slice pt ts.length ct) ts∧ts.length≤2048):=⟨A.keep HG.out,hl⟩
 unfold ch hpv
 clear A hl
 go_enter Tryz.func131,Tryz.ntmps131
 go_upto_region 1 with fail
 rw[←hV]
 clear hV
 obtain⟨n0,hn0⟩:∃ n0,n0=w.heap.size:=⟨_,rfl⟩
 simp only[←hn0] at HC HH ⊢
 obtain⟨n1,hn1⟩:∃ n1,n1=n0+1:=⟨_,rfl⟩
 simp only[←hn1] at HH ⊢
 clear hn0 hn1
 obtain⟨c0,c1,c2,c3⟩:=aR HC.out
 obtain⟨x0,x1,x2,x3,x4,x5⟩:=aL HH.out
 have CT:=pT bv (.slice pt ts.length ct) vf vl ts h.on V HA.out.1 HA.out.2
 unfold ch at CT
 by_cases v1:h.vb=1
 ·have HR:Hid (bw ts h=((dh h.on || ej ts h.on) && (decide (-9999≤h.ct) && decide (h.ct≤9999)))):=by show _=_;unfold bw;rw[if_pos v1]
  rw[v1] at x0
  clear v1
  have CP:=fun W=>eX h.on W
  cases hp:dh h.on with
  | true =>
   rw[hp] at CP HR
   clear CT
   cases d1:decide (-9999≤h.ct) with
   | false =>
    rw[d1] at HR
    go_wp2_with (go_at_call 132;refine(CP _).mono ?_;rintro e1 w1 ⟨rfl,q1⟩;obtain rfl:V=w1:=q1.symm)
    go_ret
    exact⟨aJ HR.out.symm,HG.out⟩
   | true =>
    rw[d1] at HR
    go_wp2_with (go_at_call 132;refine(CP _).mono ?_;rintro e1 w1 ⟨rfl,q1⟩;obtain rfl:V=w1:=q1.symm)
    go_ret
    exact⟨aJ HR.out.symm,HG.out⟩
  | false =>
   rw[hp] at CP HR
   obtain⟨b,hb⟩:∃ b,b=ej ts h.on:=⟨_,rfl⟩
   rw[←hb] at CT HR
   clear hb
   cases b with
   | false =>
    go_wp2_with (first | (go_at_call 132;refine(CP _).mono ?_;rintro e1 w1 ⟨rfl,q1⟩;obtain rfl:V=w1:=q1.symm) | (go_at_call 199;refine CT.mono ?_;rintro e2 w2 ⟨rfl,g2⟩;have HG2:Hid (V.grownBy w2 none):=g2;clear g2))
    go_ret
    exact⟨aJ HR.out.symm,aa HG.out HG2.out⟩
   | true =>
    cases d1:decide (-9999≤h.ct) with
    | false =>
     rw[d1] at HR
     go_wp2_with (first | (go_at_call 132;refine(CP _).mono ?_;rintro e1 w1 ⟨rfl,q1⟩;obtain rfl:V=w1:=q1.symm) | (go_at_call 199;refine CT.mono ?_;rintro e2 w2 ⟨rfl,g2⟩;have HG2:Hid (V.grownBy w2 none):=g2;have x2:=g2.cell x2 (by simp);clear g2))
     go_ret
     exact⟨aJ HR.out.symm,aa HG.out HG2.out⟩
    | true =>
     rw[d1] at HR
     go_wp2_with (first | (go_at_call 132;refine(CP _).mono ?_;rintro e1 w1 ⟨rfl,q1⟩;obtain rfl:V=w1:=q1.symm) | (go_at_call 199;refine CT.mono ?_;rintro e2 w2 ⟨rfl,g2⟩;have HG2:Hid (V.grownBy w2 none):=g2;have x2:=g2.cell x2 (by simp);clear g2))
     go_ret
     exact⟨aJ HR.out.symm,aa HG.out HG2.out⟩
 have k1:(h.vb == 1)=false:=by simpa using v1
 by_cases v6:h.vb=6
 ·have HR:Hid (bw ts h=ej ts h.on):=by show _=_;unfold bw;rw[if_neg v1,if_pos v6]
  rw[v6] at x0
  clear v1 v6 k1
  go_wp2_with (go_at_call 199;refine CT.mono ?_;rintro e2 w2 ⟨rfl,g2⟩;have HG2:Hid (V.grownBy w2 none):=g2;clear g2)
  go_ret
  exact⟨aJ HR.out.symm,aa HG.out HG2.out⟩
 have k6:(h.vb == 6)=false:=by simpa using v6
 by_cases v3:h.vb=3
 ·have HR:Hid (bw ts h=dh h.on):=by show _=_;unfold bw;rw[if_neg v1,if_neg v6,if_pos v3]
  rw[v3] at x0
  have CP:=fun W=>eX h.on W
  clear v1 v6 v3 k1 k6 CT
  go_wp2_with (go_at_call 132;refine(CP _).mono ?_;rintro e1 w1 ⟨rfl,q1⟩;obtain rfl:V=w1:=q1.symm)
  go_ret
  exact⟨aJ HR.out.symm,HG.out⟩
 have k3:(h.vb == 3)=false:=by simpa using v3
 have HR:Hid (bw ts h=false):=by show _=_;unfold bw;rw[if_neg v1,if_neg v6,if_neg v3]
 clear v1 v6 v3 CT
 go_wp2
 go_ret
 exact⟨aJ HR.out.symm,HG.out⟩
theorem xm (bv vt vf vl:Value) (ts:List Th) (p:Pt) (h:Hp) (w:World) (A:thR.At w vt ts) (hl:ts.length≤2048) (hm:h.vb=6→ej ts h.on=true):Calls Tryz.prog 154 #[ch bv vt vf vl,pv p,hpv h] w fun e w'=>e=.returned (.bool (ir ts p h))∧w.grownBy w' none:=by
 obtain⟨pt,ct,rfl⟩:=A.form
 obtain⟨V,hV⟩:∃ V,V=((w.alloc (.cells #[bv,.slice pt ts.length ct,vf,vl] 136)).alloc (.cells #[.int .u8 p.wn,.int .u8 p.vb,.int .u8 p.wm,.int .i64 p.ct,.int .u8 p.su,.int .u8 p.tr,.int .u8 p.mr,.string p.nm] 38)).alloc (.cells #[.int .u8 h.vb,.int .i64 h.on,.int .i64 h.ct,.int .i64 h.ho,.bool h.vn,.bool h.dr] 43):=⟨_,rfl⟩
 have HG:Hid (w.grownBy V none):=by rw[hV];exact ak (ak (World.grownBy_alloc _ _ none) _) _
 have HC:Hid (bY V w.heap.size bv (.slice pt ts.length ct) vf vl):=by rw[hV];exact ae (ak (World.grownBy_alloc _ _ none) _) (ai w _ _) (by simp)
 have HP:Hid (PqB V (w.heap.size+1) p):=by rw[hV];exact ae (World.grownBy_alloc _ _ none) (aP w _ _ _) (by simp)
 have HH:Hid (HpB V (w.heap.size+1+1) h):=by rw[hV];have:=ai ((w.alloc (.cells #[bv,.slice pt ts.length ct,vf,vl] 136)).alloc (.cells #[.int .u8 p.wn,.int .u8 p.vb,.int .u8 p.wm,.int .i64 p.ct,.int .u8 p.su,.int .u8 p.tr,.int .u8 p.mr,.string p.nm] 38)) #[.int .u8 h.vb,.int .i64 h.on,.int .i64 h.ct,.int .i64 h.ho,.bool h.vn,.bool h.dr] 43;rw[World.size_alloc,World.size_alloc] at this;exact this
 have HA:Hid (thR.At V (.slice pt ts.length ct) ts∧ts.length≤2048∧(h.vb=6→ej ts h.on=true)):=⟨A.keep HG.out,hl,hm⟩
 unfold ch hpv pv
 clear A hl hm
 go_enter Tryz.func154,Tryz.ntmps154
 go_upto_region 1 with fail
 rw[←hV]
 clear hV
 obtain⟨n0,hn0⟩:∃ n0,n0=w.heap.size:=⟨_,rfl⟩
 simp only[←hn0] at HC HH HP ⊢
 obtain⟨n1,hn1⟩:∃ n1,n1=n0+1:=⟨_,rfl⟩
 simp only[←hn1] at HH HP ⊢
 obtain⟨n2,hn2⟩:∃ n2,n2=n1+1:=⟨_,rfl⟩
 simp only[←hn2] at HH ⊢
 clear hn0 hn1 hn2
 obtain⟨c0,c1,c2,c3⟩:=aR HC.out
 obtain⟨x0,x1,x2,x3,x4,x5⟩:=aL HH.out
 obtain⟨-,p1,p2,p3,-⟩:=uv HP.out
 by_cases b19:p.vb=19
 ·have k19:(p.vb != 19)=false:=by simpa using b19
  by_cases m1:p.wm=1
  ·have HR:Hid (ir ts p h=(h.vb == 3)):=by show _=_;unfold ir;rw[if_neg (by simpa using b19),if_pos (Or.inl m1),dB]
   rw[m1] at p2
   clear b19 m1
   go_wp2
   go_ret
   exact⟨aJ HR.out.symm,HG.out⟩
  have k1:(p.wm == 1)=false:=by simpa using m1
  by_cases m2:p.wm=2
  ·have HR:Hid (ir ts p h=(h.vb == 3)):=by show _=_;unfold ir;rw[if_neg (by simpa using b19),if_pos (Or.inr m2),dB]
   rw[m2] at p2
   clear b19 m1 m2 k1
   go_wp2
   go_ret
   exact⟨aJ HR.out.symm,HG.out⟩
  have k2:(p.wm == 2)=false:=by simpa using m2
  have HR:Hid (ir ts p h=(decide (h.vb=6) && decide (p.ct≤(thN ts h.on).m2))):=by show _=_;unfold ir;rw[if_neg (by simpa using b19),if_neg (by simp[m1,m2])]
  by_cases v6:h.vb=6
  ·obtain⟨j,t,hj,ht,h4⟩:=oW (HA.out.2.2 v6)
   have CS:=jA bv (.slice pt ts.length ct) vf vl ts j t (V.drew) (HA.out.1.keep (ag _)) ht HA.out.2.1
   unfold ch at CS
   have HQ:Hid (ir ts p h=decide (p.ct≤t.m2)):=by show _=_;rw[HR.out,decide_eq_true v6,Bool.true_and,hj,qv ht]
   rw[v6] at x0
   rw[hj] at x1
   clear b19 m1 m2 v6 HR hj h4 ht
   go_upto_region 5 with fail
   refine wp_region_held_drew (S:=fun w'=>V.grownBy w' none) (by kernel_rfl) (ag _) (fun hHeld=>?_)
   refine QZ 0 rfl ?_
   go_frame
   refine QT 1 rfl (by intro w0 hSw;have x0:=hSw.cell x0 (by simp);go_simp;try with_reducible rfl) ?_
   go_frame
   refine QZ 2 rfl ?_
   go_frame
   refine QZ 3 rfl ?_
   go_frame
   refine QT 4 rfl (by intro w0 hSw;have c0:=hSw.cell c0 (by simp);have c1:=hSw.cell c1 (by simp);have c2:=hSw.cell c2 (by simp);have c3:=hSw.cell c3 (by simp);go_simp;try with_reducible rfl) ?_
   go_frame
   refine QZ 5 rfl ?_
   go_frame
   refine QT 6 rfl (by intro w0 hSw;have x1:=hSw.cell x1 (by simp);go_simp;try with_reducible rfl) ?_
   go_frame
   refine QZ 8 rfl ?_
   go_frame
   refine QT 9 rfl (by intro w0 hSw;have p3:=hSw.cell p3 (by simp);go_simp;try with_reducible rfl) ?_
   go_frame
   refine QR 7 rfl (fun K hK=>?_)
   rw[if_pos (by rfl)]
   go_simp
   go_at_call 134
   refine(CS).mono ?_
   rintro e2 w2 ⟨rfl,g2⟩
   have HG2:Hid (V.grownBy w2 none):=aa (ag _) g2
   clear g2
   refine hK.out _ _ (HG2.out) (fun hHeld2=>?_)
   clear hK K
   (try go_frame)
   refine QZ 10 rfl ?_
   go_frame
   refine QZ 11 rfl ?_
   go_frame
   refine QZ 12 rfl ?_
   go_frame
   refine QD ?_
   go_wp2_with fail
   go_ret
   exact⟨aJ HQ.out.symm,aa HG.out HG2.out⟩
  ·have k6:(h.vb == 6)=false:=by simpa using v6
   have HQ:Hid (ir ts p h=false):=by show _=_;rw[HR.out,decide_eq_false v6,Bool.false_and]
   clear b19 m1 m2 v6 HR
   go_upto_region 5 with fail
   refine wp_region_held_drew (S:=fun w'=>V.grownBy w' none) (by kernel_rfl) (ag _) (fun hHeld=>?_)
   refine QZ 0 rfl ?_
   go_frame
   refine QT 1 rfl (by intro w0 hSw;have x0:=hSw.cell x0 (by simp);go_simp;try with_reducible rfl) ?_
   go_frame
   refine QZ 2 rfl ?_
   go_frame
   refine QZ 3 rfl ?_
   go_frame
   refine QN 4 rfl ?_
   go_frame
   refine QN 5 rfl ?_
   go_frame
   refine QN 6 rfl ?_
   go_frame
   refine QN 8 rfl ?_
   go_frame
   refine QN 9 rfl ?_
   go_frame
   refine QR 7 rfl (fun K hK=>?_)
   rw[if_neg (Bool.eq_false_iff.1 (by rfl))]
   refine hK.out _ _ (by assumption) (fun hHeld2=>?_)
   clear hK K
   (try go_frame)
   refine QN 10 rfl ?_
   go_frame
   refine QZ 11 rfl ?_
   go_frame
   refine QZ 12 rfl ?_
   go_frame
   refine QD ?_
   go_wp2_with fail
   go_ret
   exact⟨aJ HQ.out.symm,aa HG.out (by assumption)⟩
 ·have k19:(p.vb != 19)=true:=by simpa using b19
  have HR:Hid (ir ts p h=(h.vb == 1)):=by show _=_;unfold ir;rw[if_pos b19,dB]
  clear b19
  go_wp2
  go_ret
  exact⟨aJ HR.out.symm,HG.out⟩
end Go.Proofs.YthfjgpjcepmnmaaGreat
