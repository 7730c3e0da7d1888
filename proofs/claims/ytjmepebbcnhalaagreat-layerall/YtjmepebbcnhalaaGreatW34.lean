import Derived.Test.YtjmepebbcnhalaaGreatW33
import Derived.Test.YtjmepebbcnhalaaGreatW21
namespace Go.Proofs.YtjmepebbcnhalaaGreat
open Go.RowKit Go.Shelf
theorem Tab.one {n:Int} {cd:Int→Hd×List Pt} {ts:List Th} {fs:List Fe} {R:List Rw} {k:Int} {F:List Fe} {a:Se} (h:Tab n cd ts fs R) (ha:a∈cU R F k):aN R [a.s] []=some [a]:=sw (L:=[a]) (k:=k) h.nod (fun e he=>by
 rw[List.mem_singleton] at he;subst he;exact ha) (by simp)
theorem Bb (k:Int):bv (lP k) &&& ~~~255#16=0#16:=by
 rcases lH k with h | h
 ·rcases h with rfl | rfl | rfl | rfl | rfl | rfl | rfl | rfl <;> decide
 ·rw[pD h];decide
theorem tC {s:Int} (k:Int) (h:bR s=true):bR (ki s k)=true:=by
 rw[mQ] at h ⊢
 unfold ki
 rw[Bd,Aa]
 have h1:bv s &&& ~~~255#16=0#16:=by simpa using h
 have h2:=Bb k
 have e:(bv s ||| bv (lP k)) &&& ~~~255#16=0#16:=by
  apply BitVec.eq_of_getLsbD_eq
  intro i hi
  have a:(bv s &&& ~~~255#16).getLsbD i=false:=by rw[h1,BitVec.getLsbD_zero]
  have b:(bv (lP k) &&& ~~~255#16).getLsbD i=false:=by rw[h2,BitVec.getLsbD_zero]
  rw[BitVec.getLsbD_and] at a b
  rw[BitVec.getLsbD_and,BitVec.getLsbD_or,BitVec.getLsbD_zero,Bool.and_or_distrib_right,a,b]
  rfl
 rw[e];rfl
theorem nG {s:Int} (k:Int) (h:bR s=true):bR (eM s k)=true:=by
 rw[mQ] at h ⊢
 unfold eM
 rw[l4,Aa]
 have h1:bv s &&& ~~~255#16=0#16:=by simpa using h
 have e:(bv s &&& ~~~bv (lP k)) &&& ~~~255#16=0#16:=by
  apply BitVec.eq_of_getLsbD_eq
  intro i hi
  have a:(bv s &&& ~~~255#16).getLsbD i=false:=by rw[h1,BitVec.getLsbD_zero]
  rw[BitVec.getLsbD_and] at a
  rw[BitVec.getLsbD_and,BitVec.getLsbD_and,BitVec.getLsbD_zero,Bool.and_right_comm,a]
  rfl
 rw[e];rfl
theorem wY {f:Fe} {p:Pt} {ho:Int} (h1:fG f.ho=true) (h2:bR f.tr=true) (h3:fG ho=true):fG (gw f p ho).ho=true∧bR (gw f p ho).tr=true:=by
 unfold gw
 split
 ·exact⟨h3,h2⟩
 ·split
  ·exact⟨h1,h2⟩
  ·split
   ·exact⟨h1,tC _ h2⟩
   ·split
    ·exact⟨h1,nG _ h2⟩
    ·split
     ·exact⟨h1,h2⟩
     ·split
      ·exact⟨h1,h2⟩
      ·exact⟨h1,h2⟩
theorem nh {R:List Rw} {F:List Fe} {e:Se} (he:e.ro<F.length) (hg:rQ F):rQ (aP R F e):=fun f hf=>by
 unfold aP at hf
 obtain⟨i,hi,rfl⟩:=List.mem_map.1 hf
 rw[List.mem_range] at hi
 have q:=hg (F.getD i Fe.none) (by rw[aC hi];exact List.getElem_mem _)
 have q':=hg (F.getD e.ro Fe.none) (by rw[aC he];exact List.getElem_mem _)
 unfold fB
 split
 ·exact wY q.1 q.2 q'.1
 ·exact q
theorem Tab.self {n:Int} {cd:Int→Hd×List Pt} {ts:List Th} {fs:List Fe} {R:List Rw} (h:Tab n cd ts fs R):cJ fs R (aq R fs)=fs:=by
 refine List.ext_getElem? fun j=>?_
 have a:=fY (fs:=fs) (F:=aq R fs) h.nod h.nu R.length (Nat.le_refl _)
 by_cases q:∃ i,i<R.length∧(R.getD i Rw.none).nu=(j:Int)+1
 ·obtain⟨i,hi,e⟩:=q
  have e1:=a.1 i hi
  have hb:=h.nu _ (List.getElem_mem hi)
  rw[←aC (d:=Rw.none) hi,e] at hb
  have hj:j<fs.length:=by omega
  rw[e,show ((j:Int)+1 - 1).toNat=j by omega] at e1
  refine e1.trans ?_
  rw[aC (show i<(aq R fs).length by rw[eo];exact hi)]
  unfold aq
  rw[List.getElem_map,←aC (d:=Rw.none) hi,e,show ((j:Int)+1 - 1).toNat=j by omega,aC hj,List.getElem?_eq_getElem hj]
 ·exact a.2 j fun i hi e=>q ⟨i,hi,e⟩
theorem Ca {L:List Se} (h:L.Pairwise jB) {a b:Se} (ha:a∈L) (hb:b∈L) (h1:a.ro=b.ro) (h2:a.s.pl=b.s.pl):a=b:=by
 obtain⟨i,hi,rfl⟩:=List.getElem_of_mem ha
 obtain⟨j,hj,rfl⟩:=List.getElem_of_mem hb
 have q:=List.pairwise_iff_getElem.1 h
 rcases Nat.lt_trichotomy i j with z | z | z
 ·have:=q i j hi hj z
  unfold jB at this
  omega
 ·subst z;rfl
 ·have:=q j i hj hi z
  unfold jB at this
  omega
theorem zJ {L L':List Se} (hp:L'.Perm L) (h':L'.Pairwise inS) (h:L.Pairwise jB):L'=L :=
 hp.eq_of_pairwise (fun a b ha hb h1 h2=>Ca h (hp.mem_iff.1 ha) hb (by unfold inS at h1 h2;omega) (by unfold inS at h1 h2;omega)) h' (h.imp (fun {a b} q=>by unfold jB at q;unfold inS;omega))
theorem yd {L:List Se} {p:Nat} (hp:p<L.length) (h:∀ i,i<p→(L.getD i Se.none).s≠(L.getD p Se.none).s):Lib.idxBy fW (L.map Se.s) (L.getD p Se.none).s=(p:Int):=by
 have g:∀ j,j<L.length→(L.map Se.s)[j]?=some (L.getD j Se.none).s:=fun j hj=>by rw[List.getElem?_map,List.getElem?_eq_getElem hj,Option.map_some,aC hj]
 suffices H:∀ (l:List Sd) (x:Sd) (k i:Nat),l[k]?=some x→(∀ j y,j<k→l[j]?=some y→y≠x)→Lib.idxByFrom fW x l i=((i+k:Nat):Int) by
  have:=H (L.map Se.s) (L.getD p Se.none).s p 0 (g p hp) (fun j y hj hy=>by
   rw[g j (by omega)] at hy
   cases hy
   exact h j hj)
  unfold Lib.idxBy
  rw[this,Nat.zero_add]
 intro l
 induction l with
 | nil=>intro x k i h1;simp at h1
 | cons z l ih =>
  intro x k i h1 h2
  cases k with
  | zero =>
   simp at h1
   subst h1
   unfold Lib.idxByFrom
   rw[if_pos (kK.2 rfl)]
   simp
  | succ k =>
   unfold Lib.idxByFrom
   rw[if_neg (fun q=>h2 0 z (by omega) rfl (kK.1 q).symm),ih x k (i+1) (by simpa using h1) (fun j y hj hy=>h2 (j+1) y (by omega) (by simpa using hy))]
   simp
   omega
theorem Cw {L:List Se} (h:L.Pairwise jB):L.Pairwise fun a b=>¬(a.ro=b.ro∧a.s.pl=b.s.pl):=h.imp (fun {a b} q=>by unfold jB at q;omega)
structure Onc (m:Int) (cd:Int→Hd×List Pt) (ts:List Th) (fs:List Fe) (R:List Rw) (k:Int) (X:List Fe) (L acc:List Se):Prop where
 base:Tab m cd ts fs R
 tab:Tab m cd ts X R
 lies:cJ fs R (aq R X)=X
 mem:∀ e∈L,e∈cU R (aq R fs) k
 up:L.Pairwise jB
 all:ix R fs k=np R L.length (aq R X) L acc
theorem Onc.start {m:Int} {cd:Int→Hd×List Pt} {ts:List Th} {fs:List Fe} {R:List Rw} {k:Int} (h:Tab m cd ts fs R):Onc m cd ts fs R k fs (cU R (aq R fs) k) []:=⟨h,h,h.self,fun _ h=>h,Ct _ _ _,rfl⟩
theorem Onc.list {m:Int} {cd:Int→Hd×List Pt} {ts:List Th} {fs:List Fe} {R:List Rw} {k:Int} {X:List Fe} {L acc:List Se} (h:Onc m cd ts fs R k X L acc):aN R (L.map Se.s) []=some L:=sw h.base.nod h.mem (Cw h.up)
theorem Onc.len {m:Int} {cd:Int→Hd×List Pt} {ts:List Th} {fs:List Fe} {R:List Rw} {k:Int} {X:List Fe} {L acc:List Se} (h:Onc m cd ts fs R k X L acc):X.length=fs.length:=by rw[←h.tab.len,h.base.len]
theorem Onc.lt {m:Int} {cd:Int→Hd×List Pt} {ts:List Th} {fs:List Fe} {R:List Rw} {k:Int} {X:List Fe} {L acc:List Se} (_:Onc m cd ts fs R k X L acc) (h0:0<L.length):bX R (aq R X) L<L.length:=jU (List.length_pos_iff.1 h0)
theorem Onc.step {m:Int} {cd:Int→Hd×List Pt} {ts:List Th} {fs:List Fe} {R:List Rw} {k:Int} {X:List Fe} {L acc:List Se} (h:Onc m cd ts fs R k X L acc) (h0:0<L.length):Onc m cd ts fs R k (cJ X R (aP R (aq R X) (L.getD (bX R (aq R X) L) Se.none))) (L.eraseIdx (bX R (aq R X) L)) (acc++[L.getD (bX R (aq R X) L) Se.none]):=by
 obtain⟨p,hp⟩:∃ p,p=bX R (aq R X) L:=⟨_,rfl⟩
 have hlt:=h.lt h0
 rw[←hp] at hlt ⊢
 have hx:L.getD p Se.none∈L:=by rw[aC hlt];exact List.getElem_mem _
 obtain⟨r1,_⟩:=ke (h.mem _ hx)
 have hl:(aP R (aq R X) (L.getD p Se.none)).length=R.length:=by rw[jo,eo]
 have hg:rQ (aP R (aq R X) (L.getD p Se.none)):=nh (by rw[eo];exact r1) h.tab.good
 refine⟨h.base,h.tab.back hl hg,?_,fun e he=>h.mem e (List.mem_of_mem_eraseIdx he),h.up.sublist (List.eraseIdx_sublist _ _),?_⟩
 ·rw[h.tab.pick hl]
  exact(h.base.lay2 (aq R X) _).symm.trans (by rw[h.lies])
 ·rw[h.tab.pick hl,h.all]
  obtain⟨n,hn⟩:∃ n,L.length=n+1:=⟨L.length - 1,by omega⟩
  rw[hn,og (List.length_pos_iff.1 h0),List.length_eraseIdx_of_lt hlt,hn,←hp]
  rfl
theorem Onc.end {m:Int} {cd:Int→Hd×List Pt} {ts:List Th} {fs:List Fe} {R:List Rw} {k:Int} {X:List Fe} {acc:List Se} (h:Onc m cd ts fs R k X [] acc):cJ fs R (ix R fs k).1=X:=by
 rw[h.all]
 exact h.lies
theorem Onc.next {m:Int} {cd:Int→Hd×List Pt} {ts:List Th} {fs:List Fe} {R:List Rw} {k:Int} {X:List Fe} {L acc:List Se} {w w':World} {e:Ending} (h:Onc m cd ts fs R k X L acc) (h0:0<L.length) (q:nk w 0 m cd ts X (L.map Se.s) e w'):e=.returned (.tuple #[.int .i64 ((bX R (aq R X) L:Nat):Int),.int .i64 0])∧w.grownBy w' none:=by
 obtain⟨p,e1,g,_,h1⟩:=q
 have h2:=h1 R L rfl h.tab.tab h.list
 rw[if_neg (List.length_pos_iff.1 h0)] at h2
 obtain⟨L',hp,hs,e2⟩:=h2
 have e3:=zJ hp hs h.up
 subst e3
 have hlt:=h.lt h0
 rw[yd hlt (fun i hi e=>by
  have z:=List.pairwise_iff_getElem.1 h.up i _ (by omega) hlt hi
  rw[aC (show i<L'.length by omega),aC hlt] at e
  have hx:=h.mem _ (List.getElem_mem (show i<L'.length by omega))
  have hy:=h.mem _ (List.getElem_mem hlt)
  have f1:=lR h.base.nod hx
  have f2:=lR h.base.nod hy
  rw[e,f2] at f1
  have f3:=Option.some.inj f1
  rw[f3] at z
  unfold jB at z
  omega)] at e2
 rw[eE h.tab.tab h.list,e2] at e1
 exact⟨e1,g⟩
theorem Onc.verb {m:Int} {cd:Int→Hd×List Pt} {ts:List Th} {fs:List Fe} {R:List Rw} {k:Int} {X:List Fe} {L acc:List Se} (h:Onc m cd ts fs R k X L acc) {x:Se} (hx:x∈L):lay x.s.wh.vb=k:=by
 obtain⟨_,_,_,_,_,_,_,q⟩:=ke (h.mem x hx)
 exact q
def xO (r n:Int) (cd:Int→Hd×List Pt) (ts:List Th) (fs:List Fe) (k:Int):List Fe:=if bgE r n cd ts fs k=0 then (match bi n cd ts fs with | some R=>cJ fs R (ix R fs k).1 | none=>[]) else []
def yb (r n:Int) (cd:Int→Hd×List Pt) (ts:List Th) (fs:List Fe) (k:Int):List Sd:=if bgE r n cd ts fs k=0 then (match bi n cd ts fs with | some R=>(ix R fs k).2.map Se.s | none=>[]) else []
theorem jc.lists {w w':World} {r n:Int} {cd:Int→Hd×List Pt} {ts:List Th} {fs:List Fe} {k:Int} {e:Ending} (h:jc w r n cd ts fs k e w'):∃ p c p' c',e=.returned (.tuple #[.slice p (xO r n cd ts fs k).length c,.slice p' (yb r n cd ts fs k).length c',.int .i64 (bgE r n cd ts fs k)])∧w.grownBy w' none∧feR.At w' (.slice p (xO r n cd ts fs k).length c) (xO r n cd ts fs k)∧sdR.At w' (.slice p' (yb r n cd ts fs k).length c') (yb r n cd ts fs k):=by
 obtain⟨p,m,c,p',m',c',e1,g,z,q⟩:=h
 by_cases h0:bgE r n cd ts fs k=0
 ·obtain⟨hr,hk,R,hR⟩:=jw h0
  obtain⟨o1,o2⟩:=q R hr hk hR
  have a1:xO r n cd ts fs k=cJ fs R (ix R fs k).1:=by unfold xO;rw[if_pos h0,hR]
  have a2:yb r n cd ts fs k=(ix R fs k).2.map Se.s:=by unfold yb;rw[if_pos h0,hR]
  rw[←a1] at o1
  rw[←a2] at o2
  obtain⟨x,y,f1⟩:=aB.Own.form o1
  cases f1
  obtain⟨x',y',f2⟩:=aB.Own.form o2
  cases f2
  exact⟨p,c,p',c',e1,g,aB.Own.at o1,aB.Own.at o2⟩
 ·obtain⟨rfl,rfl,rfl,rfl,-,-⟩:=z h0
  have a1:xO r n cd ts fs k=[]:=if_neg h0
  have a2:yb r n cd ts fs k=[]:=if_neg h0
  rw[a1,a2]
  exact⟨none,c,none,c',e1,g,⟨none,c,rfl,Nat.zero_le _,fun q=>absurd q (Nat.lt_irrefl 0)⟩,⟨none,c',rfl,Nat.zero_le _,fun q=>absurd q (Nat.lt_irrefl 0)⟩⟩
def BN (R:List Rw) (fs:List Fe) (k:Int):List Fe:=cJ fs R (ix R fs k).1
def clF (R:List Rw) (fs:List Fe):Nat→List Fe
 | 0=>fs
 | k+1=>BN R (clF R fs k) ((k:Int)+1)
theorem Onc.run {m:Int} {cd:Int→Hd×List Pt} {ts:List Th} {fs:List Fe} {R:List Rw} {k:Int}:∀ (n:Nat) (X:List Fe) (L acc:List Se),L.length=n→Onc m cd ts fs R k X L acc→∃ Y B,Onc m cd ts fs R k Y [] B
 | 0,X,L,acc,h,q=>by
  have:L=[]:=List.length_eq_zero_iff.1 h
  subst this
  exact⟨X,acc,q⟩
 | n+1,X,L,acc,h,q=>Onc.run n _ _ _ (by rw[List.length_eraseIdx_of_lt (q.lt (by omega))];omega) (q.step (by omega))
theorem Tab.next {m:Int} {cd:Int→Hd×List Pt} {ts:List Th} {fs:List Fe} {R:List Rw} (h:Tab m cd ts fs R) (k:Int):Tab m cd ts (BN R fs k) R:=by
 obtain⟨Y,B,q⟩:=Onc.run (k:=k) _ _ _ _ rfl (Onc.start h)
 unfold BN
 rw[q.end]
 exact q.tab
theorem Tab.cl {m:Int} {cd:Int→Hd×List Pt} {ts:List Th} {fs:List Fe} {R:List Rw} (h:Tab m cd ts fs R):∀ k,Tab m cd ts (clF R fs k) R
 | 0=>h
 | k+1=>(h.cl k).next _
def jr (ts:List Th) (x:Int):Int:=(ts.getD (x - 1).toNat Th.none).stamp
theorem Tab.up {n:Int} {cd:Int→Hd×List Pt} {ts:List Th} {fs:List Fe} {R:List Rw} (h:Tab n cd ts fs R):R.Pairwise fun a b=>a.st<b.st:=by
 have h':=h.tab
 unfold bi at h'
 split at h'
 ·split at h'
  ·split at h'
   ·rename_i hd
    cases h'
    have:=oZ (i7 (rY _)) hd
    unfold bm at this
    rw[List.pairwise_map] at this
    exact this
   ·cases h'
  ·cases h'
 ·cases h'
theorem sg {R:List Rw} {F:List Fe} {a:Se} {i:Nat} (hi:i<R.length):(aM R F a).getD i false=di R F a i:=by
 unfold aM dD
 rw[aC (by simpa using hi)]
 simp
theorem jl {R:List Rw} {F:List Fe} {a:Se} {x:Int}:x∈dA R (aM R F a)↔∃ i,i<R.length∧di R F a i=true∧(R.getD i Rw.none).nu=x:=by
 unfold dA fy
 rw[List.mem_filterMap]
 constructor
 ·rintro⟨i,hi,e⟩
  rw[List.mem_range] at hi
  rw[sg hi] at e
  split at e
  ·rename_i hb
   cases e
   exact⟨i,hi,hb,rfl⟩
  ·cases e
 ·rintro⟨i,hi,hb,rfl⟩
  exact⟨i,List.mem_range.2 hi,by rw[sg hi,if_pos hb]⟩
theorem Tab.thing {n:Int} {cd:Int→Hd×List Pt} {ts:List Th} {fs:List Fe} {R:List Rw} (h:Tab n cd ts fs R) {i:Nat} (hi:i<R.length):(ts.getD ((R.getD i Rw.none).nu - 1).toNat Th.none).place=4∧jr ts (R.getD i Rw.none).nu=(R.getD i Rw.none).st∧0<(R.getD i Rw.none).st∧1≤(R.getD i Rw.none).nu∧(R.getD i Rw.none).nu≤(fs.length:Int):=by
 have hr:R.getD i Rw.none∈R:=by rw[aC hi];exact List.getElem_mem _
 obtain⟨j,t,ht,h4,hn,hs⟩:=h.from hr
 have hj:j<ts.length:=(List.getElem?_eq_some_iff.1 ht).1
 have e:ts.getD j Th.none=t:=by rw[List.getD_eq_getElem?_getD,ht];rfl
 have hm:=h.may j t _ ht (List.getElem?_eq_getElem (by rw[←h.len];exact hj)) h4
 unfold aY at hm
 simp only[Bool.and_eq_true,decide_eq_true_eq] at hm
 unfold jr
 rw[hn,show ((j:Int)+1 - 1).toNat=j by omega,e,hs]
 exact⟨h4,rfl,hm.1.1,by omega,by rw[←h.len];omega⟩
theorem Tab.num {n:Int} {cd:Int→Hd×List Pt} {ts:List Th} {fs:List Fe} {R:List Rw} {F:List Fe} {a:Se} (h:Tab n cd ts fs R) {x:Int} (hx:x∈dA R (aM R F a)):1≤x∧x≤(fs.length:Int)∧(ts.getD (x - 1).toNat Th.none).place=4∧0<jr ts x:=by
 obtain⟨i,hi,_,rfl⟩:=jl.1 hx
 obtain⟨a1,a2,a3,a4,a5⟩:=h.thing hi
 exact⟨a4,a5,a1,by rw[a2];exact a3⟩
theorem Tab.rise {n:Int} {cd:Int→Hd×List Pt} {ts:List Th} {fs:List Fe} {R:List Rw} (F:List Fe) (a:Se) (h:Tab n cd ts fs R):(dA R (aM R F a)).Pairwise fun x y=>jr ts x<jr ts y:=by
 unfold dA fy
 refine List.Pairwise.filterMap _ (R:=fun i j:Nat=>i<R.length→j<R.length→i<j) ?_ ?_
 ·intro i j hij x hx y hy
  by_cases hi:i<R.length
  ·by_cases hj:j<R.length
   ·split at hx
    ·split at hy
     ·cases hx;cases hy
      have hlt:=hij hi hj
      rw[(h.thing hi).2.1,(h.thing hj).2.1,aC hi,aC hj]
      exact List.pairwise_iff_getElem.1 h.up i j hi hj hlt
     ·cases hy
    ·cases hx
   ·split at hy
    ·rename_i hb
     rw[List.getD_eq_getElem?_getD,List.getElem?_eq_none (by unfold aM dD;simp;omega)] at hb
     cases hb
    ·cases hy
  ·split at hx
   ·rename_i hb
    rw[List.getD_eq_getElem?_getD,List.getElem?_eq_none (by unfold aM dD;simp;omega)] at hb
    cases hb
   ·cases hx
 ·exact List.pairwise_lt_range.imp (fun {i j} q _ _=>q)
theorem gP {α β:Type} (f:α→β) (l:List α) (i:Nat) (d:α) (e:β) (h:i<l.length):(l.map f).getD i e=f (l.getD i d):=by
 rw[List.getD_eq_getElem?_getD,List.getD_eq_getElem?_getD,List.getElem?_map,List.getElem?_eq_getElem h]
 rfl
theorem lT {n:Int} {cd:Int→Hd×List Pt}:∀ (l:List (Th×Fe)) (i:Nat) (acc:List Rw),(∀ x∈l,cj n x.1=true∧(x.1.place=4→aY x.1 x.2=true∧(cd x.1.card).1.kd≠2))→acc.length+(eZ cd l i).length≤16→dE n cd l i acc=some (acc++eZ cd l i)
 | [],i,acc,_,_=>by simp[dE,eZ]
 | (t,f) :: r,i,acc,h,hl=>by
  obtain⟨h1,h2⟩:=h (t,f) List.mem_cons_self
  have hr:∀ x∈r,cj n x.1=true∧(x.1.place=4→aY x.1 x.2=true∧(cd x.1.card).1.kd≠2):=fun x hx=>h x (List.mem_cons_of_mem _ hx)
  unfold dE
  rw[if_neg (by simp only at h1;rw[h1];simp)]
  by_cases hp:t.place=4
  ·obtain⟨h3,h4⟩:=h2 hp
   rw[eD hp] at hl ⊢
   rw[List.length_cons] at hl
   rw[if_neg (by simp[hp]),if_neg (by simp only at h3;rw[h3];simp;omega),if_neg h4,lT r (i+1) _ hr (by rw[List.length_append,List.length_singleton];omega),List.append_assoc,List.singleton_append]
  ·rw[ic hp] at hl ⊢
   rw[if_pos hp,lT r (i+1) acc hr hl]
theorem mj {n:Int} {cd:Int→Hd×List Pt}:∀ (l:List (Th×Fe)) (i:Nat) (acc A:List Rw),dE n cd l i acc=some A→∀ x∈l,cj n x.1=true∧(x.1.place=4→aY x.1 x.2=true∧(cd x.1.card).1.kd≠2)
 | [],i,acc,A,h,x,hx=>by cases hx
 | (t,f) :: r,i,acc,A,h,x,hx=>by
  unfold dE at h
  split at h
  ·cases h
  ·rename_i h1
   have h1':cj n t=true:=by cases q:cj n t with | true=>rfl | false=>exact absurd q h1
   split at h
   ·rename_i hp
    rcases List.mem_cons.1 hx with rfl | hx
    ·exact⟨h1',fun z=>absurd z hp⟩
    ·exact mj r _ _ A h x hx
   ·split at h
    ·cases h
    ·rename_i hm
     split at h
     ·cases h
     ·rename_i hk
      rcases List.mem_cons.1 hx with rfl | hx
      ·refine⟨h1',fun _=>⟨?_,hk⟩⟩
       cases q:aY t f with
       | true=>rfl
       | false=>exact absurd (Or.inr q) hm
      ·exact mj r _ _ A h x hx
theorem Tab.mays {n:Int} {cd:Int→Hd×List Pt} {ts:List Th} {fs:List Fe} {R:List Rw} (h:Tab n cd ts fs R) {j:Nat} {t:Th} {f:Fe} (ht:ts[j]?=some t) (hf:fs[j]?=some f):cj n t=true∧(t.place=4→aY t f=true∧(cd t.card).1.kd≠2):=by
 have:=h.tab
 unfold bi at this
 split at this
 ·split at this
  ·rename_i acc ha
   exact mj _ _ _ _ ha (t,f) (List.mem_of_getElem? (dY.2 ⟨ht,hf⟩))
  ·cases this
 ·cases this
theorem ni:∀ l:List Int,(l.Pairwise fun a b=>a<b)→dif l=true
 | [],_=>rfl
 | [a],_=>rfl
 | a :: b :: l,h=>by
  have h':=List.pairwise_cons.1 h
  have hab:=h'.1 b List.mem_cons_self
  unfold dif
  rw[ni (b :: l) h'.2]
  simp only[Bool.and_true,decide_eq_true_eq]
  omega
theorem qY {cd:Int→Hd×List Pt}:∀ (l:List (Th×Fe)) (i j:Nat) (t:Th) (f:Fe),l[j]?=some (t,f)→t.place=4→(⟨(i:Int)+j+1,t.stamp,(cd t.card).1,(cd t.card).2⟩:Rw)∈eZ cd l i
 | [],i,j,t,f,h,_=>by simp at h
 | (t',f') :: l,i,0,t,f,h,h4=>by
  simp at h
  obtain⟨rfl,rfl⟩:=h
  rw[eD h4]
  exact List.mem_cons.2 (Or.inl (by simp))
 | (t',f') :: l,i,j+1,t,f,h,h4=>by
  have:=qY (cd:=cd) l (i+1) j t f (by simpa using h) h4
  have e:(((i+1:Nat):Int)+j+1)=((i:Int)+((j+1:Nat):Int)+1):=by omega
  rw[e] at this
  by_cases hp:t'.place=4
  ·rw[eD hp];exact List.mem_cons_of_mem _ this
  ·rw[ic hp];exact this
theorem Tab.row {n:Int} {cd:Int→Hd×List Pt} {ts:List Th} {fs:List Fe} {R:List Rw} (h:Tab n cd ts fs R) {r:Rw} (hr:r∈R):∃ (j:Nat) (t:Th),ts[j]?=some t∧t.place=4∧r=⟨(j:Int)+1,t.stamp,(cd t.card).1,(cd t.card).2⟩:=by
 obtain⟨j,t,f,a,b,c⟩:=iC _ _ _ (h.perm.mem_iff.1 hr)
 exact⟨j,t,(dY.1 a).1,b,by rw[c];simp⟩
theorem Tab.row_in {n:Int} {cd:Int→Hd×List Pt} {ts:List Th} {fs:List Fe} {R:List Rw} (h:Tab n cd ts fs R) {j:Nat} {t:Th} (ht:ts[j]?=some t) (h4:t.place=4):(⟨(j:Int)+1,t.stamp,(cd t.card).1,(cd t.card).2⟩:Rw)∈R:=by
 have hj:j<ts.length:=(List.getElem?_eq_some_iff.1 ht).1
 have:=qY (cd:=cd) (ts.zip fs) 0 j t _ (dY.2 ⟨ht,List.getElem?_eq_getElem (show j<fs.length by rw[←h.len];exact hj)⟩) h4
 rw[show (((0:Nat):Int)+j+1)=(j:Int)+1 by omega] at this
 exact h.perm.mem_iff.2 this
theorem BQ {Q:List Rw} (h:Q.Pairwise fun a b=>a.st<b.st) {a b:Rw} (ha:a∈Q) (hb:b∈Q) (e:a.st=b.st):a=b:=by
 obtain⟨i,hi,rfl⟩:=List.getElem_of_mem ha
 obtain⟨j,hj,rfl⟩:=List.getElem_of_mem hb
 have q:=List.pairwise_iff_getElem.1 h
 rcases Nat.lt_trichotomy i j with z | z | z
 ·have:=q i j hi hj z;omega
 ·subst z;rfl
 ·have:=q j i hj hi z;omega
theorem toN (j:Nat):((j:Int)+1 - 1).toNat=j:=by omega
def onC (ts:List Th) (i:Nat):Nat:=((ts.take i).filter fun t=>decide (t.place=4)).length
theorem tI {ts:List Th} {i:Nat} {t:Th} (h:ts[i]?=some t) (h4:t.place=4):onC ts (i+1)=onC ts i+1:=by
 unfold onC
 rw[List.take_add_one,h,List.filter_append,List.length_append]
 simp[h4]
theorem vp {ts:List Th} {i:Nat} {t:Th} (h:ts[i]?=some t) (h4:¬t.place=4):onC ts (i+1)=onC ts i:=by
 unfold onC
 rw[List.take_add_one,h,List.filter_append,List.length_append]
 simp[h4]
theorem Ce (ts:List Th) (i:Nat):onC ts i≤onC ts ts.length:=by
 unfold onC
 rw[List.take_length]
 exact((List.take_sublist i ts).filter _).length_le
theorem j8 {cd:Int→Hd×List Pt}:∀ (ts:List Th) (fs:List Fe) (i:Nat),ts.length=fs.length→(eZ cd (ts.zip fs) i).length=(ts.filter fun t=>decide (t.place=4)).length
 | [],[],i,_=>rfl
 | t :: ts,f :: fs,i,h=>by
  rw[List.zip_cons_cons]
  by_cases q:t.place=4
  ·rw[eD q,List.length_cons,j8 ts fs (i+1) (by simpa using h)]
   simp[q]
  ·rw[ic q,j8 ts fs (i+1) (by simpa using h)]
   simp[q]
def tOk (n:Int) (cd:Int→Hd×List Pt) (t:Th) (f:Fe):Prop:=cj n t=true∧(t.place=4→aY t f=true∧(cd t.card).1.kd≠2)
structure TgU (n:Int) (cd:Int→Hd×List Pt) (ts:List Th) (fs:List Fe) (i:Nat):Prop where
 ok:∀ (j:Nat) t f,j<i→ts[j]?=some t→fs[j]?=some f→tOk n cd t f
 few:onC ts i≤16
 dif:∀ (j k:Nat) t s,j<k→k<i→ts[j]?=some t→ts[k]?=some s→t.place=4→s.place=4→t.stamp≠s.stamp
theorem TgU.start (n:Int) (cd:Int→Hd×List Pt) (ts:List Th) (fs:List Fe):TgU n cd ts fs 0:=⟨fun _ _ _ h=>absurd h (Nat.not_lt_zero _),by simp[onC],fun _ _ _ _ _ h=>absurd h (Nat.not_lt_zero _)⟩
theorem TgU.off {n:Int} {cd:Int→Hd×List Pt} {ts:List Th} {fs:List Fe} {i:Nat} {t:Th} (h:TgU n cd ts fs i) (ht:ts[i]?=some t) (h4:¬t.place=4) (hm:cj n t=true):TgU n cd ts fs (i+1):=by
 refine⟨fun j s f hj hs hf=>?_,by rw[vp ht h4];exact h.few,fun j k s u hjk hk hs hu p4 q4=>?_⟩
 ·by_cases e:j=i
  ·subst e
   rw[ht] at hs
   cases hs
   exact⟨hm,fun z=>absurd z h4⟩
  ·exact h.ok j s f (by omega) hs hf
 ·by_cases e:k=i
  ·subst e
   rw[ht] at hu
   cases hu
   exact absurd q4 h4
  ·exact h.dif j k s u hjk (by omega) hs hu p4 q4
theorem TgU.on {n:Int} {cd:Int→Hd×List Pt} {ts:List Th} {fs:List Fe} {i:Nat} {t:Th} {f:Fe} (h:TgU n cd ts fs i) (ht:ts[i]?=some t) (hf:fs[i]?=some f) (hm:cj n t=true) (hl:aY t f=true) (hk:(cd t.card).1.kd≠2) (hc:onC ts (i+1)≤16) (hd:∀ (j:Nat) s,j<i→ts[j]?=some s→s.place=4→s.stamp≠t.stamp):TgU n cd ts fs (i+1):=by
 refine⟨fun j s g hj hs hg=>?_,hc,fun j k s u hjk hk' hs hu p4 q4=>?_⟩
 ·by_cases e:j=i
  ·subst e
   rw[ht] at hs
   rw[hf] at hg
   cases hs
   cases hg
   exact⟨hm,fun _=>⟨hl,hk⟩⟩
  ·exact h.ok j s g (by omega) hs hg
 ·by_cases e:k=i
  ·subst e
   rw[ht] at hu
   cases hu
   exact hd j s hjk hs p4
  ·exact h.dif j k s u hjk (by omega) hs hu p4 q4
theorem TgU.done {n:Int} {cd:Int→Hd×List Pt} {ts:List Th} {fs:List Fe} (h:TgU n cd ts fs ts.length) (hl:ts.length=fs.length):∃ R,bi n cd ts fs=some R:=by
 have hlay:dE n cd (ts.zip fs) 0 []=some (eZ cd (ts.zip fs) 0):=by
  rw[lT _ _ _ (fun x hx=>?_) (by
   rw[j8 ts fs 0 hl]
   have:=h.few
   unfold onC at this
   rw[List.take_length] at this
   simpa using this)]
  ·rfl
  ·obtain⟨j,hj⟩:=List.getElem?_of_mem hx
   obtain⟨a,b⟩:=dY (t:=x.1) (f:=x.2) |>.1 hj
   exact h.ok j _ _ (List.getElem?_eq_some_iff.1 a).1 a b
 have hne:(eZ cd (ts.zip fs) 0).Pairwise fun a b=>a.st≠b.st:=by
  refine List.Pairwise.imp_of_mem (fun {a b} ha hb q=>?_) (tG (cd:=cd) (ts.zip fs) 0).2
  obtain⟨j,t,f,a1,a2,a3⟩:=iC _ _ _ ha
  obtain⟨k,s,g,b1,b2,b3⟩:=iC _ _ _ hb
  rw[a3,b3] at q ⊢
  simp only at q ⊢
  exact h.dif j k t s (by omega) (List.getElem?_eq_some_iff.1 (dY.1 b1).1).1 (dY.1 a1).1 (dY.1 b1).1 a2 b2
 have hp:(sortR (eZ cd (ts.zip fs) 0)).Perm (eZ cd (ts.zip fs) 0):=List.mergeSort_perm _ _
 have h1:(sortR (eZ cd (ts.zip fs) 0)).Pairwise fun a b=>a.st≤b.st:=(List.pairwise_mergeSort (le:=fun a b:Rw=>decide (a.st≤b.st)) (fun a b c h1 h2=>by simp only[decide_eq_true_eq] at *;omega) (fun a b=>by simp only[Bool.or_eq_true,decide_eq_true_eq];omega) _).imp (fun {a b} q=>by simpa using q)
 have h2:(sortR (eZ cd (ts.zip fs) 0)).Pairwise fun a b=>a.st≠b.st:=(hp.pairwise_iff (fun {a b} q e=>q e.symm)).2 hne
 refine⟨sortR (eZ cd (ts.zip fs) 0),?_⟩
 unfold bi
 rw[if_pos hl,hlay]
 exact if_pos (ni _ (List.pairwise_map.2 ((h1.and h2).imp (fun {a b} q=>by omega))))
section
variable {n:Int} {cd:Int→Hd×List Pt} {ts:List Th} {fs:List Fe}
theorem jh (h:∀ R,¬Tab n cd ts fs R):bi n cd ts fs=none:=by
 cases q:bi n cd ts fs with
 | none=>rfl
 | some R=>exact absurd (Tab.of q) (h R)
theorem AJ (h:¬ts.length=fs.length):bi n cd ts fs=none:=jh fun _ q=>h q.len
theorem mH {i:Nat} {t:Th} (ht:ts[i]?=some t) (h:cj n t=false):bi n cd ts fs=none:=jh fun R q=>by
 have:=(q.mays ht (List.getElem?_eq_getElem (show i<fs.length by rw[←q.len];exact(List.getElem?_eq_some_iff.1 ht).1))).1
 rw[h] at this
 cases this
theorem lx {i:Nat} {t:Th} {f:Fe} (ht:ts[i]?=some t) (hf:fs[i]?=some f) (h4:t.place=4) (h:aY t f=false):bi n cd ts fs=none:=jh fun R q=>by
 have:=((q.mays ht hf).2 h4).1
 rw[h] at this
 cases this
theorem BK {i:Nat} {t:Th} {f:Fe} (ht:ts[i]?=some t) (hf:fs[i]?=some f) (h4:t.place=4) (h:(cd t.card).1.kd=2):bi n cd ts fs=none:=jh fun _ q=>((q.mays ht hf).2 h4).2 h
theorem AR {i:Nat} (h:16<onC ts i):bi n cd ts fs=none:=jh fun R q=>by
 have h1:=q.few
 have h2:=q.perm.length_eq
 rw[j8 ts fs 0 q.len] at h2
 have h3:=Ce ts i
 have h4:onC ts ts.length=(ts.filter fun t=>decide (t.place=4)).length:=by unfold onC;rw[List.take_length]
 omega
theorem Bn {j k:Nat} {t s:Th} (hjk:j<k) (ht:ts[j]?=some t) (hs:ts[k]?=some s) (p4:t.place=4) (q4:s.place=4) (h:t.stamp=s.stamp):bi n cd ts fs=none:=jh fun R q=>by
 have a:=q.row_in ht p4
 have b:=q.row_in hs q4
 have:=BQ q.up a b h
 injection this with e _ _ _
 omega
end
end Go.Proofs.YtjmepebbcnhalaaGreat
