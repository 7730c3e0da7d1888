import Derived.Test.YtjmepebbcnhalaaGreatV30
namespace Go.Proofs.YtjmepebbcnhalaaGreat
open Go.RowKit Go.Shelf
variable {n k ho m r x:Int} {cd:Int→Hd×List Pt} {ts:List Th} {fs F X:List Fe} {R:List Rw} {f:Fe} {e:Se} {L acc:List Se} {w w':World} {me:Th→Int} {i j:Nat} {t:Th}
theorem Tab.one {a:Se} (h:Tab n cd ts fs R) (ha:a∈cx R F k):bn R [a.s] []=some [a]:=sP (L:=[a]) (k:=k) h.nod (fun e he=>by
 rw[List.mem_singleton] at he;subst he;exact ha) (by simp)
theorem DZ (k:Int):bv (nZ k) &&& ~~~255#16=0#16:=by
 rcases nH k with h | h
 ·rcases h with rfl | rfl | rfl | rfl | rfl | rfl | rfl | rfl <;> decide
 ·rw[qV h];decide
theorem vV {s:Int} (k:Int) (h:bY s=true):bY (jX s k)=true:=by
 rw[oh] at h ⊢
 unfold jX
 rw[xi,AA]
 have h1:bv s &&& ~~~255#16=0#16:=by simpa using h
 have h2:=DZ k
 have e:(bv s ||| bv (nZ k)) &&& ~~~255#16=0#16:=by
  apply BitVec.eq_of_getLsbD_eq
  intro i hi
  have a:(bv s &&& ~~~255#16).getLsbD i=false:=by rw[h1,BitVec.getLsbD_zero]
  have b:(bv (nZ k) &&& ~~~255#16).getLsbD i=false:=by rw[h2,BitVec.getLsbD_zero]
  rw[BitVec.getLsbD_and] at a b
  rw[BitVec.getLsbD_and,BitVec.getLsbD_or,BitVec.getLsbD_zero,Bool.and_or_distrib_right,a,b]
  rfl
 rw[e];rfl
theorem oX {s:Int} (k:Int) (h:bY s=true):bY (eR s k)=true:=by
 rw[oh] at h ⊢
 unfold eR
 rw[iJ,AA]
 have h1:bv s &&& ~~~255#16=0#16:=by simpa using h
 have e:(bv s &&& ~~~bv (nZ k)) &&& ~~~255#16=0#16:=by
  apply BitVec.eq_of_getLsbD_eq
  intro i hi
  have a:(bv s &&& ~~~255#16).getLsbD i=false:=by rw[h1,BitVec.getLsbD_zero]
  rw[BitVec.getLsbD_and] at a
  rw[BitVec.getLsbD_and,BitVec.getLsbD_and,BitVec.getLsbD_zero,Bool.and_right_comm,a]
  rfl
 rw[e];rfl
theorem zL {p:Pt} (h1:fE f.ho=true) (h2:bY f.tr=true) (h3:fE ho=true):fE (fD f p ho).ho=true∧bY (fD f p ho).tr=true:=by
 unfold fD
 split
 ·exact⟨h3,h2⟩
 ·split
  ·exact⟨h1,h2⟩
  ·split
   ·exact⟨h1,vV _ h2⟩
   ·split
    ·exact⟨h1,oX _ h2⟩
    ·split
     ·exact⟨h1,h2⟩
     ·split
      ·exact⟨h1,h2⟩
      ·exact⟨h1,h2⟩
theorem ox (he:e.ro<F.length) (hg:sU F):sU (aG R F e):=fun f hf=>by
 unfold aG at hf
 obtain⟨i,hi,rfl⟩:=List.mem_map.1 hf
 rw[List.mem_range] at hi
 have q:=hg (F.getD i Fe.none) (by rw[aB hi];exact List.getElem_mem _)
 have q':=hg (F.getD e.ro Fe.none) (by rw[aB he];exact List.getElem_mem _)
 unfold fp
 split
 ·exact zL q.1 q.2 q'.1
 ·exact q
theorem Tab.self (h:Tab n cd ts fs R):bu fs R (aq R fs)=fs:=by
 refine List.ext_getElem? fun j=>?_
 have a:=gI (fs:=fs) (F:=aq R fs) h.nod h.nu R.length (Qj _)
 by_cases q:∃ i,i<R.length∧(R.getD i Rw.none).nu=(j:Int)+1
 ·obtain⟨i,hi,e⟩:=q
  have e1:=a.1 i hi
  have hb:=h.nu _ (List.getElem_mem hi)
  rw[←aB (d:=Rw.none) hi,e] at hb
  have hj:j<fs.length:=by omega
  rw[e,show ((j:Int)+1 - 1).toNat=j by omega] at e1
  refine e1.trans ?_
  rw[aB (show i<(aq R fs).length by rw[eu];exact hi)]
  unfold aq
  rw[List.getElem_map,←aB (d:=Rw.none) hi,e,show ((j:Int)+1 - 1).toNat=j by omega,aB hj,Qg hj]
 ·exact a.2 j fun i hi e=>q ⟨i,hi,e⟩
theorem Fh (h:L.Pairwise lg) {a b:Se} (ha:a∈L) (hb:b∈L) (h1:a.ro=b.ro) (h2:a.s.pl=b.s.pl):a=b:=by
 obtain⟨i,hi,rfl⟩:=List.getElem_of_mem ha
 obtain⟨j,hj,rfl⟩:=List.getElem_of_mem hb
 have q:=List.pairwise_iff_getElem.1 h
 rcases Nat.lt_trichotomy i j with z | z | z
 ·have:=q i j hi hj z
  unfold lg at this
  omega
 ·subst z;rfl
 ·have:=q j i hj hi z
  unfold lg at this
  omega
theorem Bo {L':List Se} (hp:L'.Perm L) (h':L'.Pairwise inS) (h:L.Pairwise lg):L'=L :=
 hp.eq_of_pairwise (fun a b ha hb h1 h2=>Fh h (hp.mem_iff.1 ha) hb (by unfold inS at h1 h2;omega) (by unfold inS at h1 h2;omega)) h' (h.imp (fun {a b} q=>by unfold lg at q;unfold inS;omega))
theorem EP {p:Nat} (hp:p<L.length) (h:∀ i,i<p→(L.getD i Se.none).s≠(L.getD p Se.none).s):Lib.idxBy lO (L.map Se.s) (L.getD p Se.none).s=(p:Int):=by
 have g:∀ j,j<L.length→(L.map Se.s)[j]?=some (L.getD j Se.none).s:=fun j hj=>by rw[List.getElem?_map,Qg hj,Option.map_some,aB hj]
 suffices H:∀ (l:List Sd) (x:Sd) (k i:Nat),l[k]?=some x→(∀ j y,j<k→l[j]?=some y→y≠x)→Lib.idxByFrom lO x l i=((i+k:Nat):Int) by
  have:=H (L.map Se.s) (L.getD p Se.none).s p 0 (g p hp) (fun j y hj hy=>by
   rw[g j (by omega)] at hy
   cases hy
   exact h j hj)
  unfold Lib.idxBy
  rw[this,Nat.zero_add]
 intro l
 induction l with
 | nil=>intro x k i h1;simp at h1
 | cons z l ih =>
  intro x k i h1 h2
  cases k with
  | zero =>
   simp at h1
   subst h1
   unfold Lib.idxByFrom
   rw[if_pos (lx.2 rfl)]
   simp
  | succ k =>
   unfold Lib.idxByFrom
   rw[if_neg (fun q=>h2 0 z (by omega) rfl (lx.1 q).symm),ih x k (i+1) (by simpa using h1) (fun j y hj hy=>h2 (j+1) y (by omega) (by simpa using hy))]
   simp
   omega
theorem Fr (h:L.Pairwise lg):L.Pairwise fun a b=>¬(a.ro=b.ro∧a.s.pl=b.s.pl):=h.imp (fun {a b} q=>by unfold lg at q;omega)
structure Onc (m:Int) (cd:Int→Hd×List Pt) (ts:List Th) (fs:List Fe) (R:List Rw) (k:Int) (X:List Fe) (L acc:List Se):Prop where
 base:Tab m cd ts fs R
 tab:Tab m cd ts X R
 lies:bu fs R (aq R X)=X
 mem:∀ e∈L,e∈cx R (aq R fs) k
 up:L.Pairwise lg
 all:du R fs k=jF R L.length (aq R X) L acc
theorem Onc.start (h:Tab m cd ts fs R):Onc m cd ts fs R k fs (cx R (aq R fs) k) []:=⟨h,h,h.self,fun _ h=>h,EC _ _ _,rfl⟩
theorem Onc.list (h:Onc m cd ts fs R k X L acc):bn R (L.map Se.s) []=some L:=sP h.base.nod h.mem (Fr h.up)
theorem Onc.len (h:Onc m cd ts fs R k X L acc):X.length=fs.length:=by rw[←h.tab.len,h.base.len]
theorem Onc.lt (_:Onc m cd ts fs R k X L acc) (h0:0<L.length):cw R (aq R X) L<L.length:=nE (List.length_pos_iff.1 h0)
theorem Onc.step (h:Onc m cd ts fs R k X L acc) (h0:0<L.length):Onc m cd ts fs R k (bu X R (aG R (aq R X) (L.getD (cw R (aq R X) L) Se.none))) (L.eraseIdx (cw R (aq R X) L)) (acc++[L.getD (cw R (aq R X) L) Se.none]):=by
 obtain⟨p,hp⟩:=Qe (cw R (aq R X) L)
 have hlt:=h.lt h0
 rw[←hp] at hlt ⊢
 have hx:L.getD p Se.none∈L:=by rw[aB hlt];exact List.getElem_mem _
 obtain⟨r1,_⟩:=iC (h.mem _ hx)
 have hl:(aG R (aq R X) (L.getD p Se.none)).length=R.length:=by rw[jG,eu]
 have hg:sU (aG R (aq R X) (L.getD p Se.none)):=ox (by rw[eu];exact r1) h.tab.good
 refine⟨h.base,h.tab.back hl hg,?_,fun e he=>h.mem e (List.mem_of_mem_eraseIdx he),h.up.sublist (List.eraseIdx_sublist _ _),?_⟩
 ·rw[h.tab.pick hl]
  exact(h.base.lay2 (aq R X) _).symm.trans (by rw[h.lies])
 ·rw[h.tab.pick hl,h.all]
  obtain⟨n,hn⟩:∃ n,L.length=n+1:=⟨L.length - 1,by omega⟩
  rw[hn,l8 (List.length_pos_iff.1 h0),List.length_eraseIdx_of_lt hlt,hn,←hp]
  rfl
theorem iV (R:List Rw):∀ (n:Nat) (F:List Fe) (L A:List Se),n=L.length→∃ B,(jF R n F L A).2=A++B∧B.length=L.length
 | 0,F,L,A,h=>⟨[],by simp[jF],by simp[←h]⟩
 | n+1,F,L,A,h=>by
  have h0:0<L.length:=by omega
  rw[l8 (List.length_pos_iff.1 h0)]
  have hlt:=nE (R:=R) (F:=F) (List.length_pos_iff.1 h0)
  obtain⟨B,e,hB⟩:=iV R n (aG R F (L.getD (cw R F L) Se.none)) (L.eraseIdx (cw R F L)) (A++[L.getD (cw R F L) Se.none]) (by rw[List.length_eraseIdx_of_lt hlt];omega)
  exact⟨L.getD (cw R F L) Se.none :: B,by rw[e,List.append_assoc,List.singleton_append],by rw[List.length_cons,hB,List.length_eraseIdx_of_lt hlt];omega⟩
theorem Onc.now (h:Onc m cd ts fs R k X L acc) (h0:0<L.length):(du R fs k).2.getD acc.length Se.none=L.getD (cw R (aq R X) L) Se.none:=by
 rw[(h.step h0).all]
 obtain⟨B,e,_⟩:=iV R _ (aq R (bu X R (aG R (aq R X) (L.getD (cw R (aq R X) L) Se.none)))) (L.eraseIdx (cw R (aq R X) L)) (acc++[L.getD (cw R (aq R X) L) Se.none]) rfl
 rw[e,List.append_assoc,List.getD_eq_getElem?_getD,List.getElem?_append_right (Qj _),Nat.sub_self]
 rfl
theorem sw (R:List Rw) (fs:List Fe) (k:Int):(du R fs k).2.length=(cx R (aq R fs) k).length:=by
 obtain⟨B,e,h⟩:=iV R _ (aq R fs) (cx R (aq R fs) k) [] rfl
 unfold du
 rw[e,List.nil_append,h]
theorem Onc.end (h:Onc m cd ts fs R k X [] acc):bu fs R (du R fs k).1=X:=by
 rw[h.all]
 exact h.lies
theorem Onc.next {e:Ending} (h:Onc m cd ts fs R k X L acc) (h0:0<L.length) (q:Ai w 0 m cd ts X (L.map Se.s) e w'):e=.returned (.tuple #[.int .i64 ((cw R (aq R X) L:Nat):Int),.int .i64 0])∧w.grownBy w' none:=by
 obtain⟨p,e1,g,_,h1⟩:=q
 have h2:=h1 R L rfl h.tab.tab h.list
 rw[if_neg (List.length_pos_iff.1 h0)] at h2
 obtain⟨L',hp,hs,e2⟩:=h2
 have e3:=Bo hp hs h.up
 subst e3
 have hlt:=h.lt h0
 rw[EP hlt (fun i hi e=>by
  have z:=List.pairwise_iff_getElem.1 h.up i _ (by omega) hlt hi
  rw[aB (show i<L'.length by omega),aB hlt] at e
  have hx:=h.mem _ (List.getElem_mem (show i<L'.length by omega))
  have hy:=h.mem _ (List.getElem_mem hlt)
  have f1:=oH h.base.nod hx
  have f2:=oH h.base.nod hy
  rw[e,f2] at f1
  have f3:=Option.some.inj f1
  rw[f3] at z
  unfold lg at z
  omega)] at e2
 rw[gN h.tab.tab h.list,e2] at e1
 exact⟨e1,g⟩
theorem Onc.verb (h:Onc m cd ts fs R k X L acc) {x:Se} (hx:x∈L):lay x.s.wh.vb=k:=by
 obtain⟨_,_,_,_,_,_,_,q⟩:=iC (h.mem x hx)
 exact q
def zv (r n:Int) (cd:Int→Hd×List Pt) (ts:List Th) (fs:List Fe) (k:Int):List Fe:=if bgE r n cd ts fs k=0 then (match bw n cd ts fs with | some R=>bu fs R (du R fs k).1 | none=>[]) else []
def yl (r n:Int) (cd:Int→Hd×List Pt) (ts:List Th) (fs:List Fe) (k:Int):List Sd:=if bgE r n cd ts fs k=0 then (match bw n cd ts fs with | some R=>(du R fs k).2.map Se.s | none=>[]) else []
theorem fG.lists {e:Ending} (h:fG w r n cd ts fs k e w'):∃ p c p' c',e=.returned (.tuple #[.slice p (zv r n cd ts fs k).length c,.slice p' (yl r n cd ts fs k).length c',.int .i64 (bgE r n cd ts fs k)])∧w.grownBy w' none∧feR.At w' (.slice p (zv r n cd ts fs k).length c) (zv r n cd ts fs k)∧sdR.At w' (.slice p' (yl r n cd ts fs k).length c') (yl r n cd ts fs k):=by
 obtain⟨p,m,c,p',m',c',e1,g,z,q⟩:=h
 by_cases h0:bgE r n cd ts fs k=0
 ·obtain⟨hr,hk,R,hR⟩:=jy h0
  obtain⟨o1,o2⟩:=q R hr hk hR
  have a1:zv r n cd ts fs k=bu fs R (du R fs k).1:=by unfold zv;rw[if_pos h0,hR]
  have a2:yl r n cd ts fs k=(du R fs k).2.map Se.s:=by unfold yl;rw[if_pos h0,hR]
  rw[←a1] at o1
  rw[←a2] at o2
  obtain⟨x,y,f1⟩:=az.Own.form o1
  cases f1
  obtain⟨x',y',f2⟩:=az.Own.form o2
  cases f2
  exact⟨p,c,p',c',e1,g,az.Own.at o1,az.Own.at o2⟩
 ·obtain⟨rfl,rfl,rfl,rfl,-,-⟩:=z h0
  have a1:zv r n cd ts fs k=[]:=if_neg h0
  have a2:yl r n cd ts fs k=[]:=if_neg h0
  rw[a1,a2]
  exact⟨none,c,none,c',e1,g,⟨none,c,rfl,Q0 _,fun q=>absurd q (Nat.lt_irrefl 0)⟩,⟨none,c',rfl,Q0 _,fun q=>absurd q (Nat.lt_irrefl 0)⟩⟩
def nh (pf:Th→Fe) (t:Th):Fe:=if t.place=4 then pf t else Fe.none
def aR (pf:Th→Fe) (ts:List Th):List Fe:=ts.map (nh pf)
theorem eQ (pf:Th→Fe) (ts:List Th):(aR pf ts).length=ts.length:=List.length_map _
def mkE (me:Th→Int):List Th→Int
 | []=>0
 | t :: l=>if t.place=4∧me t≠0 then me t else mkE me l
theorem AC {t:Th} {l:List Th} (h:t.place=4) (h2:me t≠0):mkE me (t :: l)=me t:=by
 rw[mkE,if_pos ⟨h,h2⟩]
theorem qR {t:Th} {l:List Th} (h:¬(t.place=4∧me t≠0)):mkE me (t :: l)=mkE me l:=by
 rw[mkE,if_neg h]
def nR (R:List Rw) (fs:List Fe) (k:Int):List Fe:=bu fs R (du R fs k).1
def clF (R:List Rw) (fs:List Fe):Nat→List Fe
 | 0=>fs
 | k+1=>nR R (clF R fs k) ((k:Int)+1)
def apK (R:List Rw) (fs:List Fe) (k:Nat):List Se:=(du R (clF R fs k) ((k:Int)+1)).2
def stU (R:List Rw) (fs:List Fe):Nat→List Se
 | 0=>[]
 | k+1=>stU R fs k++apK R fs k
def pi (mf:Fe→Th→Fe) (t:Th) (f:Fe):Fe:=if t.place=4 then mf f t else Fe.none
def kM (mf:Fe→Th→Fe) (ts:List Th) (fs:List Fe):List Fe:=List.zipWith (pi mf) ts fs
def fS (R:List Rw) (n:Int):List Fe→List Se→List Se
 | _,[]=>[]
 | fs,e :: l=>(if n∈cJ R (aH R (aq R fs) e) then [e] else [])++fS R n (bu fs R (aG R (aq R fs) e)) l
def whU (R:List Rw) (n:Int) (fs:List Fe):Nat→List Se
 | 0=>[]
 | k+1=>whU R n fs k++fS R n (clF R fs k) (apK R fs k)
theorem Ag (R:List Rw) (fs:List Fe) (k:Int):(nR R fs k).length=fs.length:=fY _ _ _
theorem ix (R:List Rw) (fs:List Fe):∀ k,(clF R fs k).length=fs.length
 | 0=>rfl
 | k+1=>(Ag _ _ _).trans (ix R fs k)
theorem Onc.run {m:Int} {cd:Int→Hd×List Pt} {ts:List Th} {fs:List Fe} {R:List Rw} {k:Int}:∀ (n:Nat) (X:List Fe) (L acc:List Se),L.length=n→Onc m cd ts fs R k X L acc→∃ Y B,Onc m cd ts fs R k Y [] B
 | 0,X,L,acc,h,q=>by
  have:L=[]:=List.length_eq_zero_iff.1 h
  subst this
  exact⟨X,acc,q⟩
 | n+1,X,L,acc,h,q=>Onc.run n _ _ _ (by rw[List.length_eraseIdx_of_lt (q.lt (by omega))];omega) (q.step (by omega))
theorem Tab.next (h:Tab m cd ts fs R) (k:Int):Tab m cd ts (nR R fs k) R:=by
 obtain⟨Y,B,q⟩:=Onc.run (k:=k) _ _ _ _ rfl (Onc.start h)
 unfold nR
 rw[q.end]
 exact q.tab
theorem Tab.cl {m:Int} {cd:Int→Hd×List Pt} {ts:List Th} {fs:List Fe} {R:List Rw} (h:Tab m cd ts fs R):∀ k,Tab m cd ts (clF R fs k) R
 | 0=>h
 | k+1=>(h.cl k).next _
theorem xN (h:bgE r n cd ts fs k=0):r=0∧∃ R,Tab n cd ts fs R:=by
 obtain⟨h1,-,R,h2⟩:=jy h
 exact⟨h1,R,Tab.of h2⟩
def vkE (r n:Int) (cd:Int→Hd×List Pt) (ts:List Th) (fs:List Fe) (me:Th→Int):Int:=if bgE r n cd ts fs 5=0 then mkE me ts else bgE r n cd ts fs 5
theorem rE (h:¬bgE r n cd ts fs 5=0):vkE r n cd ts fs me=bgE r n cd ts fs 5:=if_neg h
theorem mE (h:bgE r n cd ts fs 5=0):vkE r n cd ts fs me=mkE me ts:=if_pos h
theorem rD (h:vkE r n cd ts fs me=0):r=0∧(∃ R,Tab n cd ts fs R)∧mkE me ts=0:=by
 by_cases q:bgE r n cd ts fs 5=0
 ·obtain⟨a,b⟩:=xN q
  exact⟨a,b,by rw[←mE q];exact h⟩
 ·rw[rE q] at h
  exact absurd h q
def vqE (e:Int) (b:Bool) (x:Int):Int:=if e=0 then (if b then 0 else x) else e
def bhL (R:List Rw) (mf:Fe→Th→Fe) (ts:List Th) (fs:List Fe) (k:Int):List Fe:=if k=6 then kM mf ts (clF R fs 5) else clF R fs k.toNat
def vBh (r n:Int) (cd:Int→Hd×List Pt) (ts:List Th) (pf:Th→Fe) (mf:Fe→Th→Fe) (me:Th→Int) (k:Int):List Fe:=if vqE (vkE r n cd ts (aR pf (ts.take 2048)) me) (decide (0≤k∧k≤6)) 2=0 then (match bw n cd ts (aR pf ts) with | some R=>bhL R mf ts (aR pf ts) k | none=>[]) else []
def vSt (r n:Int) (cd:Int→Hd×List Pt) (ts:List Th) (pf:Th→Fe) (me:Th→Int):List Se:=if vkE r n cd ts (aR pf (ts.take 2048)) me=0 then (match bw n cd ts (aR pf ts) with | some R=>stU R (aR pf ts) 5 | none=>[]) else []
def onT (ts:List Th) (n:Int):Bool:=decide (1≤n) && (decide (n≤(ts.length:Int)) && decide ((ts.getD (n - 1).toNat Th.none).place=4))
def vWh (r n:Int) (cd:Int→Hd×List Pt) (ts:List Th) (pf:Th→Fe) (me:Th→Int) (x:Int):List Se:=if vqE (vkE r n cd ts (aR pf (ts.take 2048)) me) (onT ts x) 6=0 then (match bw n cd ts (aR pf ts) with | some R=>whU R x (aR pf ts) 5 | none=>[]) else []
theorem qK {e:Int} {b:Bool} (h:e≠0):vqE e b x=e:=if_neg h
theorem Bu:vqE 0 true x=0:=rfl
def jI (ts:List Th) (x:Int):Int:=(ts.getD (x - 1).toNat Th.none).stamp
theorem Tab.up (h:Tab n cd ts fs R):R.Pairwise fun a b=>a.st<b.st:=by
 have h':=h.tab
 unfold bw at h'
 split at h'
 ·split at h'
  ·split at h'
   ·rename_i hd
    cases h'
    have:=qU (ie (sC _)) hd
    unfold bA at this
    rw[List.pairwise_map] at this
    exact this
   ·cases h'
  ·cases h'
 ·cases h'
theorem tE {a:Se} (hi:i<R.length):(aH R F a).getD i false=dq R F a i:=by
 unfold aH dH
 rw[aB (by simpa using hi)]
 simp
theorem jd {a:Se}:x∈cJ R (aH R F a)↔∃ i,i<R.length∧dq R F a i=true∧(R.getD i Rw.none).nu=x:=by
 unfold cJ fM
 rw[List.mem_filterMap]
 constructor
 ·rintro⟨i,hi,e⟩
  rw[List.mem_range] at hi
  rw[tE hi] at e
  split at e
  ·rename_i hb
   cases e
   exact⟨i,hi,hb,rfl⟩
  ·cases e
 ·rintro⟨i,hi,hb,rfl⟩
  exact⟨i,List.mem_range.2 hi,by rw[tE hi,if_pos hb]⟩
theorem Tab.thing (h:Tab n cd ts fs R) {i:Nat} (hi:i<R.length):(ts.getD ((R.getD i Rw.none).nu - 1).toNat Th.none).place=4∧jI ts (R.getD i Rw.none).nu=(R.getD i Rw.none).st∧0<(R.getD i Rw.none).st∧1≤(R.getD i Rw.none).nu∧(R.getD i Rw.none).nu≤(fs.length:Int):=by
 have hr:R.getD i Rw.none∈R:=by rw[aB hi];exact List.getElem_mem _
 obtain⟨j,t,ht,h4,hn,hs⟩:=h.from hr
 have hj:j<ts.length:=(Qh ht).1
 have e:ts.getD j Th.none=t:=by rw[List.getD_eq_getElem?_getD,ht];rfl
 have hm:=h.may j t _ ht (Qg (by rw[←h.len];exact hj)) h4
 unfold bi at hm
 simp only[Bool.and_eq_true,decide_eq_true_eq] at hm
 unfold jI
 rw[hn,show ((j:Int)+1 - 1).toNat=j by omega,e,hs]
 exact⟨h4,rfl,hm.1.1,by omega,by rw[←h.len];omega⟩
theorem Tab.num {a:Se} (h:Tab n cd ts fs R) {x:Int} (hx:x∈cJ R (aH R F a)):1≤x∧x≤(fs.length:Int)∧(ts.getD (x - 1).toNat Th.none).place=4∧0<jI ts x:=by
 obtain⟨i,hi,_,rfl⟩:=jd.1 hx
 obtain⟨a1,a2,a3,a4,a5⟩:=h.thing hi
 exact⟨a4,a5,a1,by rw[a2];exact a3⟩
theorem Tab.rise (F:List Fe) (a:Se) (h:Tab n cd ts fs R):(cJ R (aH R F a)).Pairwise fun x y=>jI ts x<jI ts y:=by
 unfold cJ fM
 refine List.Pairwise.filterMap _ (R:=fun i j:Nat=>i<R.length→j<R.length→i<j) ?_ ?_
 ·intro i j hij x hx y hy
  by_cases hi:i<R.length
  ·by_cases hj:j<R.length
   ·split at hx
    ·split at hy
     ·cases hx;cases hy
      have hlt:=hij hi hj
      rw[(h.thing hi).2.1,(h.thing hj).2.1,aB hi,aB hj]
      exact List.pairwise_iff_getElem.1 h.up i j hi hj hlt
     ·cases hy
    ·cases hx
   ·split at hy
    ·rename_i hb
     rw[List.getD_eq_getElem?_getD,List.getElem?_eq_none (by unfold aH dH;simp;omega)] at hb
     cases hb
    ·cases hy
  ·split at hx
   ·rename_i hb
    rw[List.getD_eq_getElem?_getD,List.getElem?_eq_none (by unfold aH dH;simp;omega)] at hb
    cases hb
   ·cases hx
 ·exact List.pairwise_lt_range.imp (fun {i j} q _ _=>q)
theorem ig {α β:Type} (f:α→β) (l:List α) (i:Nat) (d:α) (e:β) (h:i<l.length):(l.map f).getD i e=f (l.getD i d):=by
 rw[List.getD_eq_getElem?_getD,List.getD_eq_getElem?_getD,List.getElem?_map,Qg h]
 rfl
theorem nJ {n:Int} {cd:Int→Hd×List Pt}:∀ (l:List (Th×Fe)) (i:Nat) (acc:List Rw),(∀ x∈l,cC n x.1=true∧(x.1.place=4→bi x.1 x.2=true∧(cd x.1.card).1.kd≠2))→acc.length+(fi cd l i).length≤16→dz n cd l i acc=some (acc++fi cd l i)
 | [],i,acc,_,_=>by simp[dz,fi]
 | (t,f) :: r,i,acc,h,hl=>by
  obtain⟨h1,h2⟩:=h (t,f) List.mem_cons_self
  have hr:∀ x∈r,cC n x.1=true∧(x.1.place=4→bi x.1 x.2=true∧(cd x.1.card).1.kd≠2):=fun x hx=>h x (List.mem_cons_of_mem _ hx)
  unfold dz
  rw[if_neg (by simp only at h1;rw[h1];simp)]
  by_cases hp:t.place=4
  ·obtain⟨h3,h4⟩:=h2 hp
   rw[eK hp] at hl ⊢
   rw[List.length_cons] at hl
   rw[if_neg (by simp[hp]),if_neg (by simp only at h3;rw[h3];simp;omega),if_neg h4,nJ r (i+1) _ hr (by rw[Qa,List.length_singleton];omega),List.append_assoc,List.singleton_append]
  ·rw[iv hp] at hl ⊢
   rw[if_pos hp,nJ r (i+1) acc hr hl]
theorem mW {n:Int} {cd:Int→Hd×List Pt}:∀ (l:List (Th×Fe)) (i:Nat) (acc A:List Rw),dz n cd l i acc=some A→∀ x∈l,cC n x.1=true∧(x.1.place=4→bi x.1 x.2=true∧(cd x.1.card).1.kd≠2)
 | [],i,acc,A,h,x,hx=>by cases hx
 | (t,f) :: r,i,acc,A,h,x,hx=>by
  unfold dz at h
  split at h
  ·cases h
  ·rename_i h1
   have h1':cC n t=true:=by cases q:cC n t with | true=>rfl | false=>exact absurd q h1
   split at h
   ·rename_i hp
    rcases List.mem_cons.1 hx with rfl | hx
    ·exact⟨h1',fun z=>absurd z hp⟩
    ·exact mW r _ _ A h x hx
   ·split at h
    ·cases h
    ·rename_i hm
     split at h
     ·cases h
     ·rename_i hk
      rcases List.mem_cons.1 hx with rfl | hx
      ·refine⟨h1',fun _=>⟨?_,hk⟩⟩
       cases q:bi t f with
       | true=>rfl
       | false=>exact absurd (Or.inr q) hm
      ·exact mW r _ _ A h x hx
theorem Tab.mays (h:Tab n cd ts fs R) {j:Nat} {t:Th} {f:Fe} (ht:ts[j]?=some t) (hf:fs[j]?=some f):cC n t=true∧(t.place=4→bi t f=true∧(cd t.card).1.kd≠2):=by
 have:=h.tab
 unfold bw at this
 split at this
 ·split at this
  ·rename_i acc ha
   exact mW _ _ _ _ ha (t,f) (Qm (dZ.2 ⟨ht,hf⟩))
  ·cases this
 ·cases this
theorem oq:∀ l:List Int,(l.Pairwise fun a b=>a<b)→dif l=true
 | [],_=>rfl
 | [a],_=>rfl
 | a :: b :: l,h=>by
  have h':=List.pairwise_cons.1 h
  have hab:=h'.1 b List.mem_cons_self
  unfold dif
  rw[oq (b :: l) h'.2]
  simp only[Bool.and_true,decide_eq_true_eq]
  omega
theorem sM {cd:Int→Hd×List Pt}:∀ (l:List (Th×Fe)) (i j:Nat) (t:Th) (f:Fe),l[j]?=some (t,f)→t.place=4→(⟨(i:Int)+j+1,t.stamp,(cd t.card).1,(cd t.card).2⟩:Rw)∈fi cd l i
 | [],i,j,t,f,h,_=>by simp at h
 | (t',f') :: l,i,0,t,f,h,h4=>by
  simp at h
  obtain⟨rfl,rfl⟩:=h
  rw[eK h4]
  exact List.mem_cons.2 (Or.inl (by simp))
 | (t',f') :: l,i,j+1,t,f,h,h4=>by
  have:=sM (cd:=cd) l (i+1) j t f (by simpa using h) h4
  have e:(((i+1:Nat):Int)+j+1)=((i:Int)+((j+1:Nat):Int)+1):=by omega
  rw[e] at this
  by_cases hp:t'.place=4
  ·rw[eK hp];exact List.mem_cons_of_mem _ this
  ·rw[iv hp];exact this
theorem Tab.row (h:Tab n cd ts fs R) {r:Rw} (hr:r∈R):∃ (j:Nat) (t:Th),ts[j]?=some t∧t.place=4∧r=⟨(j:Int)+1,t.stamp,(cd t.card).1,(cd t.card).2⟩:=by
 obtain⟨j,t,f,a,b,c⟩:=iN _ _ _ (h.perm.mem_iff.1 hr)
 exact⟨j,t,(dZ.1 a).1,b,by rw[c];simp⟩
theorem Tab.row_in (h:Tab n cd ts fs R) {j:Nat} {t:Th} (ht:ts[j]?=some t) (h4:t.place=4):(⟨(j:Int)+1,t.stamp,(cd t.card).1,(cd t.card).2⟩:Rw)∈R:=by
 have hj:j<ts.length:=(Qh ht).1
 have:=sM (cd:=cd) (ts.zip fs) 0 j t _ (dZ.2 ⟨ht,Qg (show j<fs.length by rw[←h.len];exact hj)⟩) h4
 rw[show (((0:Nat):Int)+j+1)=(j:Int)+1 by omega] at this
 exact h.perm.mem_iff.2 this
theorem EW {Q:List Rw} (h:Q.Pairwise fun a b=>a.st<b.st) {a b:Rw} (ha:a∈Q) (hb:b∈Q) (e:a.st=b.st):a=b:=by
 obtain⟨i,hi,rfl⟩:=List.getElem_of_mem ha
 obtain⟨j,hj,rfl⟩:=List.getElem_of_mem hb
 have q:=List.pairwise_iff_getElem.1 h
 rcases Nat.lt_trichotomy i j with z | z | z
 ·have:=q i j hi hj z;omega
 ·subst z;rfl
 ·have:=q j i hj hi z;omega
theorem toN (j:Nat):((j:Int)+1 - 1).toNat=j:=by omega
def onC (ts:List Th) (i:Nat):Nat:=((ts.take i).filter fun t=>decide (t.place=4)).length
theorem uR (h:ts[i]?=some t) (h4:t.place=4):onC ts (i+1)=onC ts i+1:=by
 unfold onC
 rw[List.take_add_one,h,List.filter_append,Qa]
 simp[h4]
theorem wK (h:ts[i]?=some t) (h4:¬t.place=4):onC ts (i+1)=onC ts i:=by
 unfold onC
 rw[List.take_add_one,h,List.filter_append,Qa]
 simp[h4]
theorem EO (ts:List Th) (i:Nat):onC ts i≤onC ts ts.length:=by
 unfold onC
 rw[List.take_length]
 exact((List.take_sublist i ts).filter _).length_le
theorem jk {cd:Int→Hd×List Pt}:∀ (ts:List Th) (fs:List Fe) (i:Nat),ts.length=fs.length→(fi cd (ts.zip fs) i).length=(ts.filter fun t=>decide (t.place=4)).length
 | [],[],i,_=>rfl
 | t :: ts,f :: fs,i,h=>by
  rw[List.zip_cons_cons]
  by_cases q:t.place=4
  ·rw[eK q,List.length_cons,jk ts fs (i+1) (by simpa using h)]
   simp[q]
  ·rw[iv q,jk ts fs (i+1) (by simpa using h)]
   simp[q]
def tOk (n:Int) (cd:Int→Hd×List Pt) (t:Th) (f:Fe):Prop:=cC n t=true∧(t.place=4→bi t f=true∧(cd t.card).1.kd≠2)
structure TgU (n:Int) (cd:Int→Hd×List Pt) (ts:List Th) (fs:List Fe) (i:Nat):Prop where
 ok:∀ (j:Nat) t f,j<i→ts[j]?=some t→fs[j]?=some f→tOk n cd t f
 few:onC ts i≤16
 dif:∀ (j k:Nat) t s,j<k→k<i→ts[j]?=some t→ts[k]?=some s→t.place=4→s.place=4→t.stamp≠s.stamp
theorem TgU.start (n:Int) (cd:Int→Hd×List Pt) (ts:List Th) (fs:List Fe):TgU n cd ts fs 0:=⟨fun _ _ _ h=>absurd h (Nat.not_lt_zero _),by simp[onC],fun _ _ _ _ _ h=>absurd h (Nat.not_lt_zero _)⟩
theorem TgU.off (h:TgU n cd ts fs i) (ht:ts[i]?=some t) (h4:¬t.place=4) (hm:cC n t=true):TgU n cd ts fs (i+1):=by
 refine⟨fun j s f hj hs hf=>?_,by rw[wK ht h4];exact h.few,fun j k s u hjk hk hs hu p4 q4=>?_⟩
 ·by_cases e:j=i
  ·subst e
   rw[ht] at hs
   cases hs
   exact⟨hm,fun z=>absurd z h4⟩
  ·exact h.ok j s f (by omega) hs hf
 ·by_cases e:k=i
  ·subst e
   rw[ht] at hu
   cases hu
   exact absurd q4 h4
  ·exact h.dif j k s u hjk (by omega) hs hu p4 q4
theorem TgU.on (h:TgU n cd ts fs i) (ht:ts[i]?=some t) (hf:fs[i]?=some f) (hm:cC n t=true) (hl:bi t f=true) (hk:(cd t.card).1.kd≠2) (hc:onC ts (i+1)≤16) (hd:∀ (j:Nat) s,j<i→ts[j]?=some s→s.place=4→s.stamp≠t.stamp):TgU n cd ts fs (i+1):=by
 refine⟨fun j s g hj hs hg=>?_,hc,fun j k s u hjk hk' hs hu p4 q4=>?_⟩
 ·by_cases e:j=i
  ·subst e
   rw[ht] at hs
   rw[hf] at hg
   cases hs
   cases hg
   exact⟨hm,fun _=>⟨hl,hk⟩⟩
  ·exact h.ok j s g (by omega) hs hg
 ·by_cases e:k=i
  ·subst e
   rw[ht] at hu
   cases hu
   exact hd j s hjk hs p4
  ·exact h.dif j k s u hjk (by omega) hs hu p4 q4
theorem TgU.done (h:TgU n cd ts fs ts.length) (hl:ts.length=fs.length):∃ R,bw n cd ts fs=some R:=by
 have hlay:dz n cd (ts.zip fs) 0 []=some (fi cd (ts.zip fs) 0):=by
  rw[nJ _ _ _ (fun x hx=>?_) (by
   rw[jk ts fs 0 hl]
   have:=h.few
   unfold onC at this
   rw[List.take_length] at this
   simpa using this)]
  ·rfl
  ·obtain⟨j,hj⟩:=List.getElem?_of_mem hx
   obtain⟨a,b⟩:=dZ (t:=x.1) (f:=x.2) |>.1 hj
   exact h.ok j _ _ (Qh a).1 a b
 have hne:(fi cd (ts.zip fs) 0).Pairwise fun a b=>a.st≠b.st:=by
  refine List.Pairwise.imp_of_mem (fun {a b} ha hb q=>?_) (vG (cd:=cd) (ts.zip fs) 0).2
  obtain⟨j,t,f,a1,a2,a3⟩:=iN _ _ _ ha
  obtain⟨k,s,g,b1,b2,b3⟩:=iN _ _ _ hb
  rw[a3,b3] at q ⊢
  simp only at q ⊢
  exact h.dif j k t s (by omega) (Qh (dZ.1 b1).1).1 (dZ.1 a1).1 (dZ.1 b1).1 a2 b2
 have hp:(sortR (fi cd (ts.zip fs) 0)).Perm (fi cd (ts.zip fs) 0):=List.mergeSort_perm _ _
 have h1:(sortR (fi cd (ts.zip fs) 0)).Pairwise fun a b=>a.st≤b.st:=(List.pairwise_mergeSort (le:=fun a b:Rw=>decide (a.st≤b.st)) (fun a b c h1 h2=>by simp only[decide_eq_true_eq] at *;omega) (fun a b=>by simp only[Bool.or_eq_true,decide_eq_true_eq];omega) _).imp (fun {a b} q=>by simpa using q)
 have h2:(sortR (fi cd (ts.zip fs) 0)).Pairwise fun a b=>a.st≠b.st:=(hp.pairwise_iff (fun {a b} q e=>q e.symm)).2 hne
 refine⟨sortR (fi cd (ts.zip fs) 0),?_⟩
 unfold bw
 rw[if_pos hl,hlay]
 exact if_pos (oq _ (List.pairwise_map.2 ((h1.and h2).imp (fun {a b} q=>by omega))))
section
variable {n:Int} {cd:Int→Hd×List Pt} {ts:List Th} {fs:List Fe}
theorem jt (h:∀ R,¬Tab n cd ts fs R):bw n cd ts fs=none:=by
 cases q:bw n cd ts fs with
 | none=>rfl
 | some R=>exact absurd (Tab.of q) (h R)
theorem CQ (h:¬ts.length=fs.length):bw n cd ts fs=none:=jt fun _ q=>h q.len
theorem ny (ht:ts[i]?=some t) (h:cC n t=false):bw n cd ts fs=none:=jt fun R q=>by
 have:=(q.mays ht (Qg (show i<fs.length by rw[←q.len];exact(Qh ht).1))).1
 rw[h] at this
 cases this
theorem mC (ht:ts[i]?=some t) (hf:fs[i]?=some f) (h4:t.place=4) (h:bi t f=false):bw n cd ts fs=none:=jt fun R q=>by
 have:=((q.mays ht hf).2 h4).1
 rw[h] at this
 cases this
theorem EL (ht:ts[i]?=some t) (hf:fs[i]?=some f) (h4:t.place=4) (h:(cd t.card).1.kd=2):bw n cd ts fs=none:=jt fun _ q=>((q.mays ht hf).2 h4).2 h
theorem Ds (h:16<onC ts i):bw n cd ts fs=none:=jt fun R q=>by
 have h1:=q.few
 have h2:=q.perm.length_eq
 rw[jk ts fs 0 q.len] at h2
 have h3:=EO ts i
 have h4:onC ts ts.length=(ts.filter fun t=>decide (t.place=4)).length:=by unfold onC;rw[List.take_length]
 omega
theorem CB {k:Nat} {s:Th} (hjk:j<k) (ht:ts[j]?=some t) (hs:ts[k]?=some s) (p4:t.place=4) (q4:s.place=4) (h:t.stamp=s.stamp):bw n cd ts fs=none:=jt fun R q=>by
 have a:=q.row_in ht p4
 have b:=q.row_in hs q4
 have:=EW q.up a b h
 injection this with e _ _ _
 omega
end
end Go.Proofs.YtjmepebbcnhalaaGreat
