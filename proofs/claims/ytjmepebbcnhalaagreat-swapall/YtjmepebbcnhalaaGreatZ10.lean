import Derived.Test.YtjmepebbcnhalaaGreatZ7
import Derived.ProofKit
import Derived.OpenShut
import Derived.ChangeOld
import Derived.Deep.Slices
import Derived.SizedLaws
namespace Go.Proofs.YtjmepebbcnhalaaGreat
open Tryz
open Go.RowKit
variable {xs:List Value} {w w':World} {g off base size m cap j fuel:Nat} {v:Value} {T:TypeId} {sp:Nat→Bool} {held:Bool}
theorem aT (w:World) (o:Obj) (cs:Array Value) (t:TypeId):((w.alloc o).alloc (.cells cs t)).heap[w.heap.size+1]?=some (.cells cs t (0,0)):=by have:=aj (w.alloc o) cs t;rwa [Qa3] at this
structure aB (α:Type) where
 k:Nat
 enc:α→List Value
 hk:∀ x,(enc x).length=k
 h1:∀ x,∀ v∈enc x,v.oneCell'=true
 hp:0<k
def aB.cs {α:Type} (R:aB α):List α→List Value
 | []=>[]
 | x :: l=>R.enc x++R.cs l
theorem aB.len {α:Type} (R:aB α):∀ l:List α,(R.cs l).length=l.length*R.k
 | []=>by simp[aB.cs]
 | x :: l=>by
  show (R.enc x++R.cs l).length=_;rw[Qa,R.hk,R.len l,Qau,Qbt];omega
theorem aB.app {α:Type} (R:aB α):∀ a b:List α,R.cs (a++b)=R.cs a++R.cs b
 | [],b=>rfl
 | x :: a,b=>by
  show R.enc x++R.cs (a++b)=(R.enc x++R.cs a)++R.cs b;rw[R.app a b,Qb8]
theorem aB.one {α:Type} (R:aB α) (x:α):R.cs [x]=R.enc x:=Qb4 _
theorem aB.at' {α:Type} (R:aB α):∀ {l:List α} {j:Nat} {x:α},l[j]?=some x→∀ i,i<R.k→(R.cs l)[j*R.k+i]?=(R.enc x)[i]?
 | [],j,x,h,i,hi=>by simp at h
 | y :: l,0,x,h,i,hi=>by
  simp at h;subst h;show (R.enc y++R.cs l)[0*R.k+i]?=_;rw[Qd7,Qa8,Qb1 (by rw[R.hk];exact hi)]
 | y :: l,j+1,x,h,i,hi=>by
  show (R.enc y++R.cs l)[(j+1)*R.k+i]?=_;rw[Qap (by rw[R.hk,Qbt];omega),R.hk,show (j+1)*R.k+i - R.k=j*R.k+i from by rw[Qbt];omega];exact R.at' (by simpa using h) i hi
theorem aB.ones {α:Type} (R:aB α):∀ l:List α,∀ u∈R.cs l,u.oneCell'=true
 | [],u,h=>by cases h
 | x :: l,u,h=>by
  rcases Qd2.1 h with h | h
  ·exact R.h1 x u h
  ·exact R.ones l u h
theorem aB.take {α:Type} (R:aB α):∀ (l:List α) (j:Nat),(R.cs l).take (j*R.k)=R.cs (l.take j)
 | [],j=>by simp[aB.cs]
 | x :: l,0=>by simp[aB.cs]
 | x :: l,j+1=>by
  show (R.enc x++R.cs l).take ((j+1)*R.k)=R.enc x++R.cs (l.take j);rw[List.take_append,R.hk,Qba (by rw[R.hk,Qbt];omega),show (j+1)*R.k - R.k=j*R.k from by rw[Qbt];omega,R.take l j]
theorem aB.drop {α:Type} (R:aB α):∀ (l:List α) (j:Nat),(R.cs l).drop (j*R.k)=R.cs (l.drop j)
 | [],j=>by simp[aB.cs]
 | x :: l,0=>by simp[aB.cs]
 | x :: l,j+1=>by
  show (R.enc x++R.cs l).drop ((j+1)*R.k)=R.cs (l.drop j);rw[List.drop_append,R.hk,Qbl (by rw[R.hk,Qbt];omega),show (j+1)*R.k - R.k=j*R.k from by rw[Qbt];omega,R.drop l j,Qaz]
def iX:List Value→Nat→List Value→List Value
 | xs,_,[]=>xs
 | xs,o,v :: vs=>iX (xs.set o v) (o+1) vs
theorem iZ:∀ (vs xs:List Value) (o:Nat),o+vs.length≤xs.length→iX xs o vs=xs.take o++(vs++xs.drop (o+vs.length))
 | [],xs,o,h=>by simp[iX]
 | v :: vs,xs,o,h=>by
  rw[Qau] at h;show iX (xs.set o v) (o+1) vs=_;rw[iZ vs (xs.set o v) (o+1) (by rw[Qc8];omega),Qat,Qcr (by omega),List.take_set_of_le (by omega),List.drop_set_of_lt (by omega),Qau];simp[Nat.add_assoc,Nat.add_comm 1]
theorem sY {vs:List Value} (h:vs.length=xs.length):iX xs 0 vs=vs:=by
 rw[iZ vs xs 0 (by omega),List.take_zero,Qaz,Qbl (by omega),Qb4]
theorem gD {base e size g n cap:Nat}:∀ (vs xs:List Value) (o:Nat) (w:World),w.ownsRow base e size (.slice (some ⟨g,0,none⟩) n cap) n xs→(w.setCells g o vs).ownsRow base e size (.slice (some ⟨g,0,none⟩) n cap) n (iX xs o vs)∧w.grownBy (w.setCells g o vs) (some g)
 | [],xs,o,w,h=>⟨h,aw _ _⟩
 | v :: vs,xs,o,w,h=>by
  obtain⟨h1,h2⟩:=World.ownsRow.stored h o v;obtain⟨h3,h4⟩:=gD vs (xs.set o v) (o+1) _ h1;exact⟨h3,aa h2 h4⟩
theorem aB.set {α:Type} (R:aB α) {l:List α} {j:Nat} (x:α) (h:j<l.length):iX (R.cs l) (j*R.k) (R.enc x)=R.cs (l.set j x):=by
 have h2:(j+1)*R.k≤l.length*R.k:=Qce _ h;rw[iZ _ _ _ (by rw[R.len,R.hk];rw[Qbt] at h2;exact h2),R.take,R.hk,show j*R.k+R.k=(j+1)*R.k from by rw[Qbt],R.drop,List.set_eq_take_append_cons_drop,if_pos h,R.app];rfl
def aB.At {α:Type} (R:aB α) (w:World) (v:Value) (l:List α):Prop:=∃ p cap,v=.slice p l.length cap∧l.length≤maxLen∧(0<l.length→∃ g off,p=some ⟨g,off,none⟩∧∀ (j:Nat) x,l[j]?=some x→w.rangeAt g (off+j*R.k) (R.enc x))
theorem bQ {cs:List Value} (h:w.rangeAt g off cs) (k:w.grownBy w' none):w'.rangeAt g off cs:=fun i u hu=>k.cell (h i u hu) (by simp)
theorem aB.At.keep {α:Type} {R:aB α} {l:List α} (h:R.At w v l) (k:w.grownBy w' none):R.At w' v l:=by
 obtain⟨p,cap,e,hm,h⟩:=h;refine⟨p,cap,e,hm,fun h0=>?_⟩;obtain⟨g,off,e2,h2⟩:=h h0;exact⟨g,off,e2,fun j t ht=>bQ (h2 j t ht) k⟩
theorem aB.At.nil {α:Type} (R:aB α) (w:World):R.At w (.slice none 0 0) []:=⟨none,0,rfl,Q0 _,fun h=>absurd h (Qdf _)⟩
theorem aB.At.form {α:Type} {R:aB α} {l:List α} (h:R.At w v l):∃ p cap,v=.slice p l.length cap:=by
 obtain⟨p,cap,e,_⟩:=h;exact⟨p,cap,e⟩
theorem aB.At.there {α:Type} {R:aB α} {l:List α} (h:R.At w v l) {j:Nat} (hj:j<l.length):∃ g off cap,v=.slice (some ⟨g,off,none⟩) l.length cap∧w.rangeAt g (off+j*R.k) (R.enc l[j]):=by
 obtain⟨p,cap,e,_,h⟩:=h;obtain⟨g,off,e2,h2⟩:=h (by omega);subst e2;exact⟨g,off,cap,e,h2 j _ (Qg hj)⟩
def aB.Own {α:Type} (R:aB α) (T:TypeId) (w:World) (base:Nat) (v:Value) (l:List α):Prop:=w.ownsRow base T R.k v l.length (R.cs l)
theorem eB {e n:Nat} (h:w.ownsRow base e size v n xs) (h0:0<n):∃ g cap,v=.slice (some ⟨g,0,none⟩) n cap∧base≤g∧g<w.heap.size∧n≤cap∧cap≤maxLen∧∀ (j:Nat),j<n*size→w.cell? ⟨g,j,none⟩=xs[j]?∧w.frozen? ⟨g,j,none⟩=false:=by
 rcases h.2 with ⟨_,h1⟩ | ⟨g,cap,cur,e,hb,hh,hc,hm,hs,ht⟩
 ·omega
 ·refine⟨g,cap,e,hb,aY hh,hc,hm,fun j hj=>⟨?_,aq hh j⟩⟩;rw[ae hh,←ht,Qd9,if_pos hj];simp
theorem bZ {e n:Nat} (h:w.ownsRow base e size v n xs):∃ p cap,v=.slice p n cap∧n≤maxLen:=by
 rcases h.2 with ⟨e1,h1⟩ | ⟨g,cap,cur,e1,hb,hh,hc,hm,hs,ht⟩
 ·exact⟨none,0,by rw[e1,h1],by rw[h1];exact Q0 _⟩
 ·exact⟨_,_,e1,Ql hc hm⟩
theorem aC {e n:Nat} (h:w.ownsRow base e size v n xs) (g:w.grownBy w' none):w'.ownsRow base e size v n xs:=by
 refine Qav h g ?_;cases hv:v.ownBlock with
 | none=>exact Or.inl rfl
 | some x=>exact Or.inr (by simp)
theorem bj {base' e n:Nat} (h:w.ownsRow base e size v n xs) (hb:base'≤base):w.ownsRow base' e size v n xs:=by
 refine⟨h.1,?_⟩
 rcases h.2 with h1 | ⟨g,cap,cur,e1,hg,rest⟩
 ·exact Or.inl h1
 ·exact Or.inr ⟨g,cap,cur,e1,Ql hb hg,rest⟩
theorem aB.Own.nil {α:Type} (R:aB α) (T:TypeId) (w:World) (base:Nat):R.Own T w base (.slice none 0 0) []:=⟨by simp[aB.cs],Or.inl ⟨rfl,rfl⟩⟩
theorem aB.Own.grow {α:Type} {R:aB α} {l:List α} (h:R.Own T w base v l) (g:w.grownBy w' none):R.Own T w' base v l:=aC h g
theorem aB.Own.big {α:Type} {R:aB α} {base':Nat} {l:List α} (h:R.Own T w base v l) (hb:base'≤base):R.Own T w base' v l:=bj h hb
theorem aB.Own.form {α:Type} {R:aB α} {l:List α} (h:R.Own T w base v l):∃ p c,v=.slice p l.length c:=by
 obtain⟨p,c,e,_⟩:=bZ h;exact⟨p,c,e⟩
theorem aB.Own.at {α:Type} {R:aB α} {l:List α} (h:R.Own T w base v l):R.At w v l:=by
 obtain⟨p,cap,e,hm⟩:=bZ h;refine⟨p,cap,e,hm,fun h0=>?_⟩;obtain⟨g,cap',e',_,_,_,_,hc⟩:=eB h h0;rw[e] at e';cases e';refine⟨g,0,rfl,fun j t ht i u hu=>?_⟩;have hi:i<R.k:=by have:=(Qh hu).1;rwa [R.hk] at this
 have hj:=(Qh ht).1;have h2:(j+1)*R.k≤l.length*R.k:=Qce _ hj;rw[Qbt] at h2;rw[Qa8,(hc (j*R.k+i) (by omega)).1,R.at' ht i hi];exact hu
theorem kh (g o j:Nat):(⟨g,o,none⟩:Addr).add j=⟨g,o+j,none⟩:=Addr.add_mid g o j
def Src (w:World) (vx:Value) (m size:Nat) (ys:List Value):Prop:=∃ p c,vx=.slice p m c∧ys.length=m*size∧(0<m→∃ ad,p=some ad∧∀ j u,ys[j]?=some u→w.cell? (Addr.add ad j)=some u)
theorem Src.keep {vx:Value} {ys:List Value} (h:Src w vx m size ys) (k:w.grownBy w' none):Src w' vx m size ys:=by
 obtain⟨p,c,e,hl,h⟩:=h;refine⟨p,c,e,hl,fun h0=>?_⟩;obtain⟨ad,e2,h2⟩:=h h0;exact⟨ad,e2,fun j u hu=>k.cell (h2 j u hu) (by simp)⟩
theorem aB.At.src {α:Type} {R:aB α} {l:List α} (h:R.At w v l):Src w v l.length R.k (R.cs l):=by
 obtain⟨p,c,e,_,h⟩:=h;refine⟨p,c,e,R.len l,fun h0=>?_⟩;obtain⟨g,off,e2,h2⟩:=h h0;refine⟨_,e2,fun j u hu=>?_⟩;have hj:j<l.length*R.k:=by have:=(Qh hu).1;rwa [R.len] at this
 have hq:j / R.k<l.length:=Nat.div_lt_of_lt_mul (by rw[Qdl];exact hj);have hr:j % R.k<R.k:=Nat.mod_lt _ R.hp;have e3:j=j / R.k*R.k+j % R.k:=by rw[Qdl];exact(Nat.div_add_mod _ _).symm
 have h4:=h2 (j / R.k) l[j / R.k] (Qg hq) (j % R.k) u (by
  rw[←R.at' (Qg hq) (j % R.k) hr,←e3]
  exact hu)
 rw[kh,show off+j=off+j / R.k*R.k+j % R.k from by omega];exact h4
theorem jx {e:Nat} {cs:Array Value} (h:w.heap[g]?=some (.cells cs e (0,0))) (hs:cs.size=m*size) (c:Nat):Src w (.slice (some ⟨g,0,none⟩) m c) m size cs.toList :=
 ⟨_,c,rfl,by simp[hs],fun _=>⟨_,rfl,fun j u hu=>by rw[kh,Qa8,ae h];simpa using hu⟩⟩
theorem aB.more {α:Type} {R:aB α} {n:Nat} {l:List α} {x:α} (h:w.ownsRow base T R.k v (n+1) (R.cs l++R.enc x)) (hn:n=l.length):R.Own T w base v (l++[x]):=by
 unfold aB.Own;rw[Qa,Qax,R.app,R.one,←hn];exact h
theorem aB.Own.set {α:Type} {R:aB α} {n:Nat} {l:List α} (h:R.Own T w base (.slice (some ⟨g,0,none⟩) n cap) l) (hn:l.length=n) (hj:j<n) (x:α):R.Own T (w.setCells g (j*R.k) (R.enc x)) base (.slice (some ⟨g,0,none⟩) n cap) (l.set j x)∧w.grownBy (w.setCells g (j*R.k) (R.enc x)) (some g):=by
 unfold aB.Own at h ⊢;rw[hn] at h;obtain⟨h1,h2⟩:=gD (R.enc x) (R.cs l) (j*R.k) w h;rw[R.set x (by omega)] at h1;rw[Qc8,hn];exact⟨h1,h2⟩
theorem aB.Own.there {α:Type} {R:aB α} {n:Nat} {l:List α} (h:R.Own T w base (.slice (some ⟨g,0,none⟩) n cap) l) (hn:l.length=n) (hj:j<n):w.there g (j*R.k) R.k:=by
 unfold aB.Own at h;rw[hn] at h;have h2:(j+1)*R.k≤n*R.k:=Qce _ hj;rw[Qbt] at h2;intro i hi;refine⟨?_,Qbw h _⟩;rw[Qcd h (j*R.k+i) (by omega),Qg (by rw[R.len,hn];omega)];rfl
theorem aB.Own.lt {α:Type} {R:aB α} {l:List α} (h:R.Own T w base v l):∀ x,v.ownBlock=some x→base≤x∧x<w.heap.size:=fun x hx=>Qa5 h x hx
set_option maxRecDepth 100000
open Go.ChangeShapes Go.WideShapes Go.ChangeAt Go.Deep
theorem cells3':prog.cellsOf 3=1:=by kernel_rfl
theorem cells4':prog.cellsOf 4=1:=by kernel_rfl
theorem cells9':prog.cellsOf 9=1:=by kernel_rfl
theorem cells111':prog.cellsOf 111=9:=by kernel_rfl
theorem cells106':prog.cellsOf 106=1:=by kernel_rfl
theorem cells60':prog.cellsOf 60=1:=by kernel_rfl
theorem cells62':prog.cellsOf 62=8:=by kernel_rfl
theorem cells58':prog.cellsOf 58=1:=by kernel_rfl
theorem cells108':prog.cellsOf 108=1:=by kernel_rfl
theorem cells59':prog.cellsOf 59=1:=by kernel_rfl
theorem cells56':prog.cellsOf 56=1:=by kernel_rfl
theorem cells55':prog.cellsOf 55=1:=by kernel_rfl
theorem cells57':prog.cellsOf 57=1:=by kernel_rfl
theorem cells109':prog.cellsOf 109=1:=by kernel_rfl
theorem bytes62':prog.bytesOf 62=40:=by kernel_rfl
structure Pwf (p:Pt):Prop where
 wn:(Lit.int .u8 p.wn).wf=true
 vb:(Lit.int .u8 p.vb).wf=true
 wm:(Lit.int .u8 p.wm).wf=true
 ct:(Lit.int .i64 p.ct).wf=true
 su:(Lit.int .u8 p.su).wf=true
 tr:(Lit.int .u8 p.tr).wf=true
 mr:(Lit.int .u8 p.mr).wf=true
 nm:p.nm.size≤maxLen
structure Hwf (h:Hd):Prop where
 nm:h.nm.size≤maxLen
 su:(Lit.int .u8 h.su).wf=true
 kd:(Lit.int .u8 h.kd).wf=true
 co:(Lit.int .i64 h.co).wf=true
 po:(Lit.int .i64 h.po).wf=true
 he:(Lit.int .i64 h.he).wf=true
 tr:(Lit.int .u16 h.tr).wf=true
theorem zF {H:Type} {enc:TypeId×Value→H} {n:Nat} {a:Addr} {cs:List Value} {x:DataW H×List MemPlace}
  (h:w.cells? base a 8=some cs) (ht:DataW.trod enc prog w base sp held n 62 cs=some x):∃ p:Pt,Pwf p∧∀ k u,(pvs p)[k]?=some u→w.cell? (a.add k)=some u:=by
 obtain⟨xs,m,_,hx,_,hn,hfl⟩:=Qb9 underlying62 ht;obtain⟨_,hl,hc⟩:=Qct h
 match cs,hl,xs,hn with
 | [c0,c1,c2,c3,c4,c5,c6,c7],_,[y0,y1,y2,y3,y4,y5,y6,y7],_ =>
  have t0:DataW.trod enc prog w base sp held m 55 (([c0,c1,c2,c3,c4,c5,c6,c7].drop 0).take (prog.cellsOf 55))=some y0:=hfl 0 _ rfl;rw[cells55'] at t0;change DataW.trod enc prog w base sp held m 55 [c0]=some y0 at t0;obtain⟨z0,e0,hy0,w0⟩:=Qaa underlying55 t0;have t1:DataW.trod enc prog w base sp held m 56 (([c0,c1,c2,c3,c4,c5,c6,c7].drop 1).take (prog.cellsOf 56))=some y1:=hfl 1 _ rfl;rw[cells56'] at t1;change DataW.trod enc prog w base sp held m 56 [c1]=some y1 at t1;obtain⟨z1,e1,hy1,w1⟩:=Qaa underlying56 t1;have t2:DataW.trod enc prog w base sp held m 57 (([c0,c1,c2,c3,c4,c5,c6,c7].drop 2).take (prog.cellsOf 57))=some y2:=hfl 2 _ rfl;rw[cells57'] at t2;change DataW.trod enc prog w base sp held m 57 [c2]=some y2 at t2;obtain⟨z2,e2,hy2,w2⟩:=Qaa underlying57 t2;have t3:DataW.trod enc prog w base sp held m 3 (([c0,c1,c2,c3,c4,c5,c6,c7].drop 3).take (prog.cellsOf 3))=some y3:=hfl 3 _ rfl;rw[cells3'] at t3;change DataW.trod enc prog w base sp held m 3 [c3]=some y3 at t3;obtain⟨z3,e3,hy3,w3⟩:=Qaa underlying3 t3;have t4:DataW.trod enc prog w base sp held m 58 (([c0,c1,c2,c3,c4,c5,c6,c7].drop 4).take (prog.cellsOf 58))=some y4:=hfl 4 _ rfl;rw[cells58'] at t4;change DataW.trod enc prog w base sp held m 58 [c4]=some y4 at t4;obtain⟨z4,e4,hy4,w4⟩:=Qaa underlying58 t4;have t5:DataW.trod enc prog w base sp held m 59 (([c0,c1,c2,c3,c4,c5,c6,c7].drop 5).take (prog.cellsOf 59))=some y5:=hfl 5 _ rfl;rw[cells59'] at t5;change DataW.trod enc prog w base sp held m 59 [c5]=some y5 at t5;obtain⟨z5,e5,hy5,w5⟩:=Qaa underlying59 t5;have t6:DataW.trod enc prog w base sp held m 60 (([c0,c1,c2,c3,c4,c5,c6,c7].drop 6).take (prog.cellsOf 60))=some y6:=hfl 6 _ rfl;rw[cells60'] at t6;change DataW.trod enc prog w base sp held m 60 [c6]=some y6 at t6;obtain⟨z6,e6,hy6,w6⟩:=Qaa underlying60 t6;have t7:DataW.trod enc prog w base sp held m 9 (([c0,c1,c2,c3,c4,c5,c6,c7].drop 7).take (prog.cellsOf 9))=some y7:=hfl 7 _ rfl;rw[cells9'] at t7;change DataW.trod enc prog w base sp held m 9 [c7]=some y7 at t7;obtain⟨z7,e7,hy7,w7⟩:=Qcs underlying9 t7;simp only[List.cons.injEq,and_true] at e0 e1 e2 e3 e4 e5 e6 e7;subst e0 e1 e2 e3 e4 e5 e6 e7;refine⟨⟨z0,z1,z2,z3,z4,z5,z6,z7⟩,⟨w0,w1,w2,w3,w4,w5,w6,w7⟩,fun k u hk=>?_⟩;have hk8:k<8:=(Qh hk).1;have:=hc k hk8;rw[this];rw[←hk]
  rcases (show k=0∨k=1∨k=2∨k=3∨k=4∨k=5∨k=6∨k=7 from by omega) with rfl | rfl | rfl | rfl | rfl | rfl | rfl | rfl <;> rfl
theorem mO {a:Addr} (h:a=⟨a.block,a.off,none⟩) (i j:Nat):(a.add i).add j=a.add (i+j):=by
 rw[h,dq,dq,dq,Qcz]
theorem xp {H:Type} {enc:TypeId×Value→H} {x:DataW H×List MemPlace}
  (h:DataW.trod enc prog w base sp held fuel 109 [v]=some x) (hz:∀ n∈x.1.weights prog 109,n≤reachBytes):∃ l,da w v l∧kg l.length∧∀ p∈l,Pwf p:=by
 rcases open_slice underlying109 h with ⟨hcs,_⟩ | ⟨a,len,cp,m,f,D,Pl,hcs,_,hl,hm,hmm,hxx,hx⟩
 ·simp at hcs;subst hcs;exact⟨[],Or.inl ⟨rfl,rfl⟩,by unfold kg;decide,by simp⟩
 ·simp at hcs;subst hcs;rw[cells62'] at hx;have hnm:len≤m:=by rw[hmm];split <;> omega
  have hp:∀ i,i<len→∃ p:Pt,Pwf p∧∀ k u,(pvs p)[k]?=some u→w.cell? ((a.add (i*8)).add k)=some u:=fun i hi=>by
   obtain⟨cs',h1,h2⟩:=hx i (by omega);exact zF h1 h2
  haveI:Inhabited Pt:=⟨⟨0,0,0,0,0,0,0,⟨#[]⟩⟩⟩
  obtain⟨F,hF⟩:=choose_lt (α:=Pt) hp;refine⟨(List.range len).map F,Or.inr ⟨a,cp,by simp,by simpa using hl,fun j u hu=>?_⟩,?_,?_⟩
  ·have hj:j<len*8:=by
    have:=(Qh hu).1;rw[fK] at this;simpa using this
   have h0:0<len:=(by omega);have hi:j / 8<len:=(by omega);have hs:((List.range len).map F)[j / 8]?=some (F (j / 8)):=(by simp[hi]);have hq:=iN _ _ _ hs (j % 8) (by omega);rw[show j / 8*8+j % 8=j from by omega,hu] at hq;have c0:=(hF 0 h0).2 0 _ rfl;have ex:(a.add (0*8)).add 0=a:=(by simp[Addr.add]);rw[ex] at c0;have:=(hF (j / 8) hi).2 (j % 8) u hq.symm;rw[mO (gO c0),show j / 8*8+j % 8=j from by omega] at this;exact this
  ·have hb:=hz ((len+(m - len))*40) (by rw[hxx];simp[DataW.weights,underlying109,bytes62']);unfold kg;unfold reachBytes at hb;simp only[List.length_map,List.length_range];omega
  ·intro p hpm;obtain⟨i,hi,rfl⟩:=List.mem_map.1 hpm;exact(hF i (Qdb.1 hi)).1
theorem wS {H:Type} {enc:TypeId×Value→H} {l:List Value} {x:DataW H×List MemPlace} (hsz:l.length=9) (hf:DataW.trod enc prog w base sp held fuel 111 l=some x) (hz:∀ n∈x.1.weights prog 111,n≤reachBytes):∃ (h:Hd) (u:Value) (ps:List Pt),l=cvs h u∧da w u ps∧kg ps.length∧Hwf h∧∀ p∈ps,Pwf p:=by
 obtain⟨c0,c1,c2,c3,c4,c5,c6,c7,c8,rfl⟩:∃ c0 c1 c2 c3 c4 c5 c6 c7 c8,l=[c0,c1,c2,c3,c4,c5,c6,c7,c8]:=by
  match l,hsz with
  | [c0,c1,c2,c3,c4,c5,c6,c7,c8],_=>exact⟨c0,c1,c2,c3,c4,c5,c6,c7,c8,rfl⟩
 obtain⟨xs,n,_,hx,_,hlen,hfl⟩:=Qb9 underlying111 hf
 match xs,hlen with
 | [y0,y1,y2,y3,y4,y5,y6,y7,y8],_ =>
  have t0:DataW.trod enc prog w base sp held n 9 (([c0,c1,c2,c3,c4,c5,c6,c7,c8].drop 0).take (prog.cellsOf 9))=some y0:=hfl 0 _ rfl;rw[cells9'] at t0;change DataW.trod enc prog w base sp held n 9 [c0]=some y0 at t0;obtain⟨z0,e0,hy0,w0⟩:=Qcs underlying9 t0;have t1:DataW.trod enc prog w base sp held n 58 (([c0,c1,c2,c3,c4,c5,c6,c7,c8].drop 1).take (prog.cellsOf 58))=some y1:=hfl 1 _ rfl;rw[cells58'] at t1;change DataW.trod enc prog w base sp held n 58 [c1]=some y1 at t1;obtain⟨z1,e1,hy1,w1⟩:=Qaa underlying58 t1;have t2:DataW.trod enc prog w base sp held n 106 (([c0,c1,c2,c3,c4,c5,c6,c7,c8].drop 2).take (prog.cellsOf 106))=some y2:=hfl 2 _ rfl;rw[cells106'] at t2;change DataW.trod enc prog w base sp held n 106 [c2]=some y2 at t2;obtain⟨z2,e2,hy2,w2⟩:=Qaa underlying106 t2;have t3:DataW.trod enc prog w base sp held n 3 (([c0,c1,c2,c3,c4,c5,c6,c7,c8].drop 3).take (prog.cellsOf 3))=some y3:=hfl 3 _ rfl;rw[cells3'] at t3;change DataW.trod enc prog w base sp held n 3 [c3]=some y3 at t3;obtain⟨z3,e3,hy3,w3⟩:=Qaa underlying3 t3;have t4:DataW.trod enc prog w base sp held n 3 (([c0,c1,c2,c3,c4,c5,c6,c7,c8].drop 4).take (prog.cellsOf 3))=some y4:=hfl 4 _ rfl;rw[cells3'] at t4;change DataW.trod enc prog w base sp held n 3 [c4]=some y4 at t4;obtain⟨z4,e4,hy4,w4⟩:=Qaa underlying3 t4;have t5:DataW.trod enc prog w base sp held n 3 (([c0,c1,c2,c3,c4,c5,c6,c7,c8].drop 5).take (prog.cellsOf 3))=some y5:=hfl 5 _ rfl;rw[cells3'] at t5;change DataW.trod enc prog w base sp held n 3 [c5]=some y5 at t5;obtain⟨z5,e5,hy5,w5⟩:=Qaa underlying3 t5;have t6:DataW.trod enc prog w base sp held n 108 (([c0,c1,c2,c3,c4,c5,c6,c7,c8].drop 6).take (prog.cellsOf 108))=some y6:=hfl 6 _ rfl;rw[cells108'] at t6;change DataW.trod enc prog w base sp held n 108 [c6]=some y6 at t6;obtain⟨z6,e6,hy6,w6⟩:=Qaa underlying108 t6;have t7:DataW.trod enc prog w base sp held n 4 (([c0,c1,c2,c3,c4,c5,c6,c7,c8].drop 7).take (prog.cellsOf 4))=some y7:=hfl 7 _ rfl;rw[cells4'] at t7;change DataW.trod enc prog w base sp held n 4 [c7]=some y7 at t7;obtain⟨z7,e7,hy7⟩:=Qc9 underlying4 t7;have t8:DataW.trod enc prog w base sp held n 109 (([c0,c1,c2,c3,c4,c5,c6,c7,c8].drop 8).take (prog.cellsOf 109))=some y8:=hfl 8 _ rfl;rw[cells109'] at t8;change DataW.trod enc prog w base sp held n 109 [c8]=some y8 at t8;simp only[List.cons.injEq,and_true] at e0 e1 e2 e3 e4 e5 e6 e7;subst e0 e1 e2 e3 e4 e5 e6 e7
  obtain⟨L,h1,h2,h3⟩:=xp t8 (fun n hn=>hz n (by
   rw[hx];simp only[DataW.weights,underlying111]
   exact DataW.weights_mem_each (j:=8) rfl rfl n hn))
  exact⟨⟨z0,z1,z2,z3,z4,z5,z6,z7⟩,c8,L,rfl,h1,h2,⟨w0,w1,w2,w3,w4,w5,w6⟩,h3⟩
