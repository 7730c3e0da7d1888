import Derived.Test.YtjmepebbcnhalaaGreatW33
import Derived.Test.YtjmepebbcnhalaaGreatW24
import Derived.Test.YtjmepebbcnhalaaGreatW14
import Derived.Test.YtjmepebbcnhalaaGreatW3
import Derived.BigQuiet
import Derived.Test.YtjmepebbcnhalaaGreatW21
import Derived.Test.YtjmepebbcnhalaaGreatW20
namespace Go.Proofs.YtjmepebbcnhalaaGreat
open Go.RowKit Go.Shelf
def nI (w:World) (g:Nat) (vt vf:Value):Prop:=w.heap[g]?=some (.cells #[vt,vf] 29 (0,0))
theorem dm {w:World} {g:Nat} {vt vf:Value} (h:nI w g vt vf):w.cell? ⟨g,0,none⟩=some vt∧w.cell? ⟨g,1,none⟩=some vf:=⟨(ae h 0).trans rfl,(ae h 1).trans rfl⟩
end Go.Proofs.YtjmepebbcnhalaaGreat
namespace Go.Proofs.YtjmepebbcnhalaaGreat
open Go.RowKit

open Go.Shelf
theorem Tryz.linfoT:(Tryz.prog.info? 120).map (fun i=>(i.zero,i.size,i.bytes))=some (some (.agg #[.int .i64 0,.int .i64 0,.int .u8 0,.int .i64 0,.int .i64 0,.int .i64 0,.int .i64 0,.int .i64 0,.int .i64 0,.int .i64 0,.bool false]),11,88):=by kernel_rfl




end Go.Proofs.YtjmepebbcnhalaaGreat
namespace Go.Proofs.YtjmepebbcnhalaaGreat
set_option maxRecDepth 100000
open Go.ChangeShapes Go.WideShapes Go.ChangeAt Go.RowKit Go.Deep
theorem rO {H:Type} {enc:TypeId×Value→H} {w:World} {base:Nat} {sp:Nat→Bool} {held:Bool} {fuel:Nat} {l:List Value} {x:DataW H×List MemPlace} (hsz:l.length=11) (hf:DataW.trod enc Tryz.prog w base sp held fuel 120 l=some x):∃ t:Th,l=thc t:=by
 obtain⟨c0,c1,c2,c3,c4,c5,c6,c7,c8,c9,c10,rfl⟩:∃ c0 c1 c2 c3 c4 c5 c6 c7 c8 c9 c10,l=[c0,c1,c2,c3,c4,c5,c6,c7,c8,c9,c10]:=by
  match l,(show l.length=11 from hsz) with
  | [c0,c1,c2,c3,c4,c5,c6,c7,c8,c9,c10],_=>exact⟨c0,c1,c2,c3,c4,c5,c6,c7,c8,c9,c10,rfl⟩
 obtain⟨xs,n,_,hx,_,hlen,hfl⟩:=DataW.trod_struct Tryz.underlying120 hf
 match xs,hlen with
 | [y0,y1,y2,y3,y4,y5,y6,y7],_ =>
  have t0:DataW.trod enc Tryz.prog w base sp held n 3 (([c0,c1,c2,c3,c4,c5,c6,c7,c8,c9,c10].drop 0).take (Tryz.prog.cellsOf 3))=some y0:=hfl 0 _ rfl
  rw[pQ] at t0
  have t1:DataW.trod enc Tryz.prog w base sp held n 3 (([c0,c1,c2,c3,c4,c5,c6,c7,c8,c9,c10].drop 1).take (Tryz.prog.cellsOf 3))=some y1:=hfl 1 _ rfl
  rw[pQ] at t1
  have t2:DataW.trod enc Tryz.prog w base sp held n 117 (([c0,c1,c2,c3,c4,c5,c6,c7,c8,c9,c10].drop 2).take (Tryz.prog.cellsOf 117))=some y2:=hfl 2 _ rfl
  rw[CJ] at t2
  have t3:DataW.trod enc Tryz.prog w base sp held n 3 (([c0,c1,c2,c3,c4,c5,c6,c7,c8,c9,c10].drop 3).take (Tryz.prog.cellsOf 3))=some y3:=hfl 3 _ rfl
  rw[pQ] at t3
  have t4:DataW.trod enc Tryz.prog w base sp held n 3 (([c0,c1,c2,c3,c4,c5,c6,c7,c8,c9,c10].drop 4).take (Tryz.prog.cellsOf 3))=some y4:=hfl 4 _ rfl
  rw[pQ] at t4
  have t5:DataW.trod enc Tryz.prog w base sp held n 118 (([c0,c1,c2,c3,c4,c5,c6,c7,c8,c9,c10].drop 5).take (Tryz.prog.cellsOf 118))=some y5:=hfl 5 _ rfl
  rw[cOf4] at t5
  have t6:DataW.trod enc Tryz.prog w base sp held n 3 (([c0,c1,c2,c3,c4,c5,c6,c7,c8,c9,c10].drop 9).take (Tryz.prog.cellsOf 3))=some y6:=hfl 6 _ rfl
  rw[pQ] at t6
  have t7:DataW.trod enc Tryz.prog w base sp held n 4 (([c0,c1,c2,c3,c4,c5,c6,c7,c8,c9,c10].drop 10).take (Tryz.prog.cellsOf 4))=some y7:=hfl 7 _ rfl
  rw[cOfB] at t7
  obtain⟨z0,e0,_,w0⟩:=DataW.trod_int Tryz.underlying3 (cs:=[c0]) t0
  simp only[List.cons.injEq,and_true] at e0
  subst e0
  obtain⟨z1,e1,_,w1⟩:=DataW.trod_int Tryz.underlying3 (cs:=[c1]) t1
  simp only[List.cons.injEq,and_true] at e1
  subst e1
  obtain⟨z2,e2,_,w2⟩:=DataW.trod_int Tryz.underlying117 (cs:=[c2]) t2
  simp only[List.cons.injEq,and_true] at e2
  subst e2
  obtain⟨z3,e3,_,w3⟩:=DataW.trod_int Tryz.underlying3 (cs:=[c3]) t3
  simp only[List.cons.injEq,and_true] at e3
  subst e3
  obtain⟨z4,e4,_,w4⟩:=DataW.trod_int Tryz.underlying3 (cs:=[c4]) t4
  simp only[List.cons.injEq,and_true] at e4
  subst e4
  obtain⟨z5,z6,z7,z8,rfl,rfl,rfl,rfl,w5,w6,w7,w8⟩:=tn (c0:=c5) (c1:=c6) (c2:=c7) (c3:=c8) t5
  obtain⟨z9,e9,_,w9⟩:=DataW.trod_int Tryz.underlying3 (cs:=[c9]) t6
  simp only[List.cons.injEq,and_true] at e9
  subst e9
  obtain⟨z10,e10,_⟩:=DataW.trod_bool Tryz.underlying4 (cs:=[c10]) t7
  simp only[List.cons.injEq,and_true] at e10
  subst e10
  exact⟨⟨z0,z1,z2,z3,z4,z5,z6,z7,z8,z9,z10⟩,rfl⟩
theorem nM {H:Type} {enc:TypeId×Value→H} {w:World} {base:Nat} {sp:Nat→Bool} {held:Bool} {fuel:Nat} {l:List Value} {x:DataW H×List MemPlace} (hsz:l.length=5) (hf:DataW.trod enc Tryz.prog w base sp held fuel 122 l=some x):∃ f:Fe,l=fec f∧InI f.po∧InI f.he:=by
 obtain⟨c0,c1,c2,c3,c4,rfl⟩:∃ c0 c1 c2 c3 c4,l=[c0,c1,c2,c3,c4]:=by
  match l,(show l.length=5 from hsz) with
  | [c0,c1,c2,c3,c4],_=>exact⟨c0,c1,c2,c3,c4,rfl⟩
 obtain⟨xs,n,_,hx,_,hlen,hfl⟩:=DataW.trod_struct Tryz.underlying122 hf
 match xs,hlen with
 | [y0,y1,y2,y3,y4],_ =>
  have t0:DataW.trod enc Tryz.prog w base sp held n 3 (([c0,c1,c2,c3,c4].drop 0).take (Tryz.prog.cellsOf 3))=some y0:=hfl 0 _ rfl
  rw[pQ] at t0
  have t1:DataW.trod enc Tryz.prog w base sp held n 58 (([c0,c1,c2,c3,c4].drop 1).take (Tryz.prog.cellsOf 58))=some y1:=hfl 1 _ rfl
  rw[CZ] at t1
  have t2:DataW.trod enc Tryz.prog w base sp held n 108 (([c0,c1,c2,c3,c4].drop 2).take (Tryz.prog.cellsOf 108))=some y2:=hfl 2 _ rfl
  rw[BA] at t2
  have t3:DataW.trod enc Tryz.prog w base sp held n 3 (([c0,c1,c2,c3,c4].drop 3).take (Tryz.prog.cellsOf 3))=some y3:=hfl 3 _ rfl
  rw[pQ] at t3
  have t4:DataW.trod enc Tryz.prog w base sp held n 3 (([c0,c1,c2,c3,c4].drop 4).take (Tryz.prog.cellsOf 3))=some y4:=hfl 4 _ rfl
  rw[pQ] at t4
  obtain⟨z0,e0,_,w0⟩:=DataW.trod_int Tryz.underlying3 (cs:=[c0]) t0
  simp only[List.cons.injEq,and_true] at e0
  subst e0
  obtain⟨z1,e1,_,w1⟩:=DataW.trod_int Tryz.underlying58 (cs:=[c1]) t1
  simp only[List.cons.injEq,and_true] at e1
  subst e1
  obtain⟨z2,e2,_,w2⟩:=DataW.trod_int Tryz.underlying108 (cs:=[c2]) t2
  simp only[List.cons.injEq,and_true] at e2
  subst e2
  obtain⟨z3,e3,_,w3⟩:=DataW.trod_int Tryz.underlying3 (cs:=[c3]) t3
  simp only[List.cons.injEq,and_true] at e3
  subst e3
  obtain⟨z4,e4,_,w4⟩:=DataW.trod_int Tryz.underlying3 (cs:=[c4]) t4
  simp only[List.cons.injEq,and_true] at e4
  subst e4
  exact⟨⟨z0,z1,z2,z3,z4⟩,rfl,kr w3,kr w4⟩
theorem wT {α:Type} [Inhabited α] (R:aB α) {T E:TypeId} (hu:Tryz.prog.underlying T=some (.slice E)) (hk:Tryz.prog.cellsOf E=R.k) {H:Type} {enc:TypeId×Value→H} {w:World} {base:Nat} {sp:Nat→Bool} {held:Bool} (hc:∀ {fuel:Nat} {l:List Value} {x:DataW H×List MemPlace},l.length=R.k→DataW.trod enc Tryz.prog w base sp held fuel E l=some x→∃ e,l=R.enc e) {fuel:Nat} {v:Value} {x:DataW H×List MemPlace} (h:DataW.trod enc Tryz.prog w base sp held fuel T [v]=some x):∃ l,R.At w v l:=by
 rcases open_slice hu h with ⟨hcs,_⟩ | ⟨a,len,cp,m,f,D,Pl,hcs,_,hl,hm,hmm,hxx,hx⟩
 ·simp at hcs
  subst hcs
  exact⟨[],aB.At.nil R w⟩
 ·simp at hcs
  subst hcs
  rw[hk] at hx
  have hnm:len≤m:=by rw[hmm];split <;> omega
  have hp:∀ i,i<len→∃ e:α,∀ k u,(R.enc e)[k]?=some u→w.cell? ((a.add (i*R.k)).add k)=some u:=fun i hi=>by
   obtain⟨cs',h1,h2⟩:=hx i (by omega)
   obtain⟨_,hlen,hcc⟩:=World.cells?_some h1
   obtain⟨e,he⟩:=hc hlen h2
   subst he
   refine⟨e,fun k y hk'=>?_⟩
   have hk4:k<R.k:=by have:=(List.getElem?_eq_some_iff.1 hk').1;rwa [R.hk] at this
   rw[hcc k hk4]
   exact hk'
  obtain⟨F,hF⟩:=choose_lt (α:=α) hp
  have hln:((List.range len).map F).length=len:=by simp
  refine⟨(List.range len).map F,some a,cp,by rw[hln],by rw[hln];exact Nat.le_trans hl hm,fun h0=>?_⟩
  have h0':0<len:=by rwa [hln] at h0
  obtain⟨v0,hv0⟩:∃ v0,(R.enc (F 0))[0]?=some v0:=⟨_,List.getElem?_eq_getElem (by rw[R.hk];exact R.hp)⟩
  have c0:=(hF 0 h0') 0 _ hv0
  have ex:(a.add (0*R.k)).add 0=a:=by simp[Addr.add]
  rw[ex] at c0
  have pl:=fg c0
  refine⟨a.block,a.off,by rw[←pl],fun j e he=>?_⟩
  have hj:j<len:=by have:=(List.getElem?_eq_some_iff.1 he).1;rwa [hln] at this
  obtain rfl:e=F j:=by simp[hj] at he;exact he.symm
  intro k u hk'
  have:=hF j hj k u hk'
  rw[ka pl,pl,cG,←Nat.add_assoc] at this
  exact this
theorem Cb:Tryz.prog.cellsOf 29=2:=by kernel_rfl
theorem Cq:Tryz.prog.cellsOf 26=1:=by kernel_rfl
theorem BL:Tryz.prog.cellsOf 27=1:=by kernel_rfl
theorem tD {H:Type} {enc:TypeId×Value→H} {w:World} {base:Nat} {sp:Nat→Bool} {held:Bool} {fuel:Nat} {l:List Value} {x:DataW H×List MemPlace} (hsz:l.length=8) (hf:DataW.trod enc Tryz.prog w base sp held fuel 62 l=some x):∃ p:Pt,l=[.int .u8 p.wn,.int .u8 p.vb,.int .u8 p.wm,.int .i64 p.ct,.int .u8 p.su,.int .u8 p.tr,.int .u8 p.mr,.string p.nm]:=by
 obtain⟨c0,c1,c2,c3,c4,c5,c6,c7,rfl⟩:∃ c0 c1 c2 c3 c4 c5 c6 c7,l=[c0,c1,c2,c3,c4,c5,c6,c7]:=by
  match l,hsz with
  | [c0,c1,c2,c3,c4,c5,c6,c7],_=>exact⟨c0,c1,c2,c3,c4,c5,c6,c7,rfl⟩
 obtain⟨xs,n,_,hx,_,hlen,hfl⟩:=DataW.trod_struct Tryz.underlying62 hf
 match xs,hlen with
 | [y0,y1,y2,y3,y4,y5,y6,y7],_ =>
  have t0:DataW.trod enc Tryz.prog w base sp held n 55 (([c0,c1,c2,c3,c4,c5,c6,c7].drop 0).take (Tryz.prog.cellsOf 55))=some y0:=hfl 0 _ rfl
  rw[Tryz.cells55'] at t0
  have t1:DataW.trod enc Tryz.prog w base sp held n 56 (([c0,c1,c2,c3,c4,c5,c6,c7].drop 1).take (Tryz.prog.cellsOf 56))=some y1:=hfl 1 _ rfl
  rw[Tryz.cells56'] at t1
  have t2:DataW.trod enc Tryz.prog w base sp held n 57 (([c0,c1,c2,c3,c4,c5,c6,c7].drop 2).take (Tryz.prog.cellsOf 57))=some y2:=hfl 2 _ rfl
  rw[Tryz.cells57'] at t2
  have t3:DataW.trod enc Tryz.prog w base sp held n 3 (([c0,c1,c2,c3,c4,c5,c6,c7].drop 3).take (Tryz.prog.cellsOf 3))=some y3:=hfl 3 _ rfl
  rw[Tryz.cells3'] at t3
  have t4:DataW.trod enc Tryz.prog w base sp held n 58 (([c0,c1,c2,c3,c4,c5,c6,c7].drop 4).take (Tryz.prog.cellsOf 58))=some y4:=hfl 4 _ rfl
  rw[Tryz.cells58'] at t4
  have t5:DataW.trod enc Tryz.prog w base sp held n 59 (([c0,c1,c2,c3,c4,c5,c6,c7].drop 5).take (Tryz.prog.cellsOf 59))=some y5:=hfl 5 _ rfl
  rw[Tryz.cells59'] at t5
  have t6:DataW.trod enc Tryz.prog w base sp held n 60 (([c0,c1,c2,c3,c4,c5,c6,c7].drop 6).take (Tryz.prog.cellsOf 60))=some y6:=hfl 6 _ rfl
  rw[Tryz.cells60'] at t6
  have t7:DataW.trod enc Tryz.prog w base sp held n 9 (([c0,c1,c2,c3,c4,c5,c6,c7].drop 7).take (Tryz.prog.cellsOf 9))=some y7:=hfl 7 _ rfl
  rw[Tryz.cells9'] at t7
  obtain⟨z0,e0,_,w0⟩:=DataW.trod_int Tryz.underlying55 (cs:=[c0]) t0
  simp only[List.cons.injEq,and_true] at e0
  subst e0
  obtain⟨z1,e1,_,w1⟩:=DataW.trod_int Tryz.underlying56 (cs:=[c1]) t1
  simp only[List.cons.injEq,and_true] at e1
  subst e1
  obtain⟨z2,e2,_,w2⟩:=DataW.trod_int Tryz.underlying57 (cs:=[c2]) t2
  simp only[List.cons.injEq,and_true] at e2
  subst e2
  obtain⟨z3,e3,_,w3⟩:=DataW.trod_int Tryz.underlying3 (cs:=[c3]) t3
  simp only[List.cons.injEq,and_true] at e3
  subst e3
  obtain⟨z4,e4,_,w4⟩:=DataW.trod_int Tryz.underlying58 (cs:=[c4]) t4
  simp only[List.cons.injEq,and_true] at e4
  subst e4
  obtain⟨z5,e5,_,w5⟩:=DataW.trod_int Tryz.underlying59 (cs:=[c5]) t5
  simp only[List.cons.injEq,and_true] at e5
  subst e5
  obtain⟨z6,e6,_,w6⟩:=DataW.trod_int Tryz.underlying60 (cs:=[c6]) t6
  simp only[List.cons.injEq,and_true] at e6
  subst e6
  obtain⟨z7,e7,_⟩:=DataW.trod_string Tryz.underlying9 (cs:=[c7]) t7
  simp only[List.cons.injEq,and_true] at e7
  subst e7
  exact⟨⟨z0,z1,z2,z3,z4,z5,z6,z7⟩,rfl⟩
theorem CV:Tryz.prog.cellsOf 64=10:=by kernel_rfl
theorem lZ {H:Type} {enc:TypeId×Value→H} {w:World} {base:Nat} {sp:Nat→Bool} {held:Bool} {fuel:Nat} {l:List Value} {x:DataW H×List MemPlace} (hsz:l.length=10) (hf:DataW.trod enc Tryz.prog w base sp held fuel 64 l=some x):∃ s:Sd,l=sdc s:=by
 obtain⟨c0,c1,c2,c3,c4,c5,c6,c7,c8,c9,rfl⟩:∃ c0 c1 c2 c3 c4 c5 c6 c7 c8 c9,l=[c0,c1,c2,c3,c4,c5,c6,c7,c8,c9]:=by
  match l,hsz with
  | [c0,c1,c2,c3,c4,c5,c6,c7,c8,c9],_=>exact⟨c0,c1,c2,c3,c4,c5,c6,c7,c8,c9,rfl⟩
 obtain⟨xs,n,_,hx,_,hlen,hfl⟩:=DataW.trod_struct Tryz.underlying64 hf
 match xs,hlen with
 | [y0,y1,y2],_ =>
  have t0:DataW.trod enc Tryz.prog w base sp held n 3 (([c0,c1,c2,c3,c4,c5,c6,c7,c8,c9].drop 0).take (Tryz.prog.cellsOf 3))=some y0:=hfl 0 _ rfl
  rw[Tryz.cells3'] at t0
  have t1:DataW.trod enc Tryz.prog w base sp held n 3 (([c0,c1,c2,c3,c4,c5,c6,c7,c8,c9].drop 1).take (Tryz.prog.cellsOf 3))=some y1:=hfl 1 _ rfl
  rw[Tryz.cells3'] at t1
  have t2:DataW.trod enc Tryz.prog w base sp held n 62 (([c0,c1,c2,c3,c4,c5,c6,c7,c8,c9].drop 2).take (Tryz.prog.cellsOf 62))=some y2:=hfl 2 _ rfl
  rw[Tryz.cells62'] at t2
  obtain⟨z0,e0,_,w0⟩:=DataW.trod_int Tryz.underlying3 (cs:=[c0]) t0
  simp only[List.cons.injEq,and_true] at e0
  subst e0
  obtain⟨z1,e1,_,w1⟩:=DataW.trod_int Tryz.underlying3 (cs:=[c1]) t1
  simp only[List.cons.injEq,and_true] at e1
  subst e1
  obtain⟨p,hp⟩:=tD (l:=[c2,c3,c4,c5,c6,c7,c8,c9]) rfl t2
  simp only[List.cons.injEq,and_true] at hp
  obtain⟨rfl,rfl,rfl,rfl,rfl,rfl,rfl,rfl⟩:=hp
  exact⟨⟨z0,z1,p⟩,rfl⟩
end Go.Proofs.YtjmepebbcnhalaaGreat
namespace Go.Proofs.YtjmepebbcnhalaaGreat
set_option maxRecDepth 100000
set_option maxHeartbeats 4000000
open Go.RowKit Go.Shelf
theorem jj (w:World) (a b:Array Value) (s t:TypeId):((w.alloc (.cells a s)).alloc (.cells b t)).heap[w.heap.size]?=some (.cells a s (0,0)):=ai (World.grownBy_alloc _ _ none) (ak w a s) (by simp)
def eH (c m t f:Nat):Bool:=decide (80<c) || (decide (20<m) || (decide (2100<t) || decide (2100<f)))
theorem nR {c m t f:Nat} (h:eH c m t f=false):c≤80∧m≤20∧t≤2100∧f≤2100:=by
 unfold eH at h
 simp at h
 omega
theorem xw (pc pm pt pf:Option Addr) (c m t f kc km kt kf:Nat) (op:Bool) (w:World):Calls Tryz.prog 6 #[.agg #[.slice pc c kc,.slice pm m km,.bool op],.agg #[.slice pt t kt,.slice pf f kf]] w fun e w'=>e=.returned (.bool (eH c m t f))∧w.grownBy w' none:=by
 obtain⟨W,hW⟩:∃ W,W=(w.alloc (.cells #[.slice pc c kc,.slice pm m km,.bool op] 25)).alloc (.cells #[.slice pt t kt,.slice pf f kf] 29):=⟨_,rfl⟩
 have HG:Hid (w.grownBy W none):=by rw[hW];exact am (World.grownBy_alloc _ _ none) _
 have H0:Hid (W.heap[w.heap.size]?=some (.cells #[.slice pc c kc,.slice pm m km,.bool op] 25 (0,0))∧nI W (w.heap.size+1) (.slice pt t kt) (.slice pf f kf)):=⟨by rw[hW];exact jj _ _ _ _ _,by rw[hW];exact aL _ _ _ _⟩
 go_enter Tryz.func6,Tryz.ntmps6
 go_upto_region 1 with fail
 rw[←hW]
 obtain⟨b0,hb0⟩:∃ b0,b0=w.heap.size:=⟨_,rfl⟩
 obtain⟨b1,hb1⟩:∃ b1,b1=b0+1:=⟨_,rfl⟩
 rw[←hb0,←hb1] at H0 ⊢
 clear hW hb0 hb1
 have t0:=(dm H0.out.2).1
 have t1:=(dm H0.out.2).2
 have f0:W.cell? ⟨b0,0,none⟩=some (.slice pc c kc):=(ae H0.out.1 0).trans rfl
 have f1:W.cell? ⟨b0,1,none⟩=some (.slice pm m km):=(ae H0.out.1 1).trans rfl
 by_cases h1:80<c
 ·have e1:decide ((80:Int)<(c:Int))=true:=decide_eq_true (by omega)
  have HE:Hid (eH c m t f=true):=by show _=_;unfold eH;rw[decide_eq_true h1];rfl
  go_wp2_with fail
  go_ret
  exact⟨by rw[HE.out];rfl,HG.out⟩
 ·have e1:decide ((80:Int)<(c:Int))=false:=decide_eq_false (by omega)
  by_cases h2:20<m
  ·have e2:decide ((20:Int)<(m:Int))=true:=decide_eq_true (by omega)
   have HE:Hid (eH c m t f=true):=by show _=_;unfold eH;rw[decide_eq_true h2,Bool.true_or,Bool.or_true]
   go_wp2_with fail
   go_ret
   exact⟨by rw[HE.out];rfl,HG.out⟩
  ·have e2:decide ((20:Int)<(m:Int))=false:=decide_eq_false (by omega)
   by_cases h3:2100<t
   ·have e3:decide ((2100:Int)<(t:Int))=true:=decide_eq_true (by omega)
    have HE:Hid (eH c m t f=true):=by show _=_;unfold eH;rw[decide_eq_true h3,Bool.true_or,Bool.or_true,Bool.or_true]
    go_wp2_with fail
    go_ret
    exact⟨by rw[HE.out];rfl,HG.out⟩
   ·have e3:decide ((2100:Int)<(t:Int))=false:=decide_eq_false (by omega)
    by_cases h4:2100<f
    ·have e4:decide ((2100:Int)<(f:Int))=true:=decide_eq_true (by omega)
     have HE:Hid (eH c m t f=true):=by show _=_;unfold eH;rw[decide_eq_true h4,Bool.or_true,Bool.or_true,Bool.or_true]
     go_wp2_with fail
     go_ret
     exact⟨by rw[HE.out];rfl,HG.out⟩
    ·have e4:decide ((2100:Int)<(f:Int))=false:=decide_eq_false (by omega)
     have HE:Hid (eH c m t f=false):=by show _=_;unfold eH;rw[decide_eq_false h1,decide_eq_false h2,decide_eq_false h3,decide_eq_false h4];rfl
     go_wp2_with fail
     go_ret
     exact⟨by rw[HE.out];rfl,HG.out⟩
set_option maxHeartbeats 2000000
theorem qN (a0 a1 a2 a3 a4:Int) (w:World):(Op.equalIn 10000 122 (.agg #[.int .i64 a0,.int .u8 a1,.int .u16 a2,.int .i64 a3,.int .i64 a4]) (.agg #[.int .i64 a0,.int .u8 a1,.int .u16 a2,.int .i64 a3,.int .i64 a4])).run Tryz.prog w=.ok true w:=by
 have hS:Tryz.prog.underlying 122=some (.struct (Tryz.prog.fieldsOf 122)):=by kernel_rfl
 have hp:Tryz.prog.stoodInHeld 122=false:=by kernel_rfl
 have u3:=Tryz.underlying3
 have i3:=Tryz.isAgg3
 have z3:=Tryz.sizeOf3
 have uS:=Tryz.underlying58
 have iS:=Tryz.isAgg58
 have zS:=Tryz.sizeOf58
 have uT:=Tryz.underlying108
 have iT:=Tryz.isAgg108
 have zT:=Tryz.sizeOf108
 rw[show (10000:Nat)=9999+1 from rfl,run_equalIn_agg w 9999 122 _ _ hS hp]
 simp only[Program.fieldsOf,Tryz.underlying122]
 go_simp
theorem vh (a0 a1 a2 a3 a4:Int) (w:World):(binOp .neq 122 (.agg #[.int .i64 a0,.int .u8 a1,.int .u16 a2,.int .i64 a3,.int .i64 a4]) (.agg #[.int .i64 a0,.int .u8 a1,.int .u16 a2,.int .i64 a3,.int .i64 a4])).run Tryz.prog w=.ok (.bool false) w:=by
 rw[run_neq_struct,qN];rfl
theorem uU (op:BinOp) (x y:Operand) (xs ys:Array Value) (w:World):(eqGuard op 122 x y (.agg xs) (.agg ys)).run Tryz.prog w=.ok () w:=run_eqGuard_agg w op 122 x y xs ys (by kernel_rfl)
theorem Aj (s:Sd) (w:World):(binOp .neq 64 (sdv s) (sdv s)).run Tryz.prog w=.ok (.bool false) w:=by
 rw[show sdv s=.agg (sdc s).toArray from rfl,run_neq_struct,lU,show fW s s=true from kK.2 rfl];rfl
theorem pR (op:BinOp) (x y:Operand) (xs ys:Array Value) (w:World):(eqGuard op 64 x y (.agg xs) (.agg ys)).run Tryz.prog w=.ok () w:=run_eqGuard_agg w op 64 x y xs ys (by kernel_rfl)
end Go.Proofs.YtjmepebbcnhalaaGreat
namespace Go.Proofs.YtjmepebbcnhalaaGreat
set_option maxRecDepth 100000
set_option maxHeartbeats 2000000
open Go.RowKit
theorem yC {p:Pl} {es:List Ent} {c:Cd} (h0:caE p es c=0):p.shut=false∧fH c=0∧¬c.nm∈bs es:=by
 unfold caE at h0
 split at h0
 ·omega
 ·rename_i hs
  split at h0
  ·exact absurd h0 (by assumption)
  ·rename_i hq
   split at h0
   ·omega
   ·rename_i hz
    exact⟨by simpa using hs,by simpa using hq,pJ (Int.not_le.1 hz)⟩
theorem xU (es:List Ent) (e:Ent):(bs (ins es e)).Perm (e.h.nm :: bs es):=by
 induction es with
 | nil=>exact List.Perm.refl _
 | cons y r ih =>
  rw[lO]
  split
  ·exact(List.Perm.cons _ ih).trans (List.Perm.swap _ _ _)
  ·exact List.Perm.refl _
theorem Cy {es fs:List Ent} (h:es.map hp=fs.map hp) {m:Nat} {e:Ent} (he:es[m]?=some e):∃ f,fs[m]?=some f∧f.h=e.h∧f.ps=e.ps:=by
 have h1:(es.map hp)[m]?=some (hp e):=by rw[List.getElem?_map,he];rfl
 rw[h,List.getElem?_map] at h1
 cases hf:fs[m]? with
 | none=>rw[hf] at h1;cases h1
 | some f =>
  rw[hf] at h1
  injection h1 with h1
  injection h1 with h1 h2
  exact⟨f,rfl,h1,h2⟩
theorem Pr.step {ok:Nat→Prop} {w U1 U2:World} {b r:Nat} {v:Value} {es fs:List Ent} {p p':Pl} (P:Pr ok w b r v es fs p) (hb:¬ok b) (hr:¬ok r) (hne:¬b=r) (B:dV ok U1 b es p') (g1:w.grownBy U1 (some b)) (R:RJ U2 r v p') (g2:U1.grownBy U2 (some r)) (hm:MkD p') (hz:p'.nms[0]?=some ⟨#[]⟩):Pr ok U2 b r v es fs p':=by
 have nb:∀ k,ok k→some k≠some b:=fun k hk e=>by injection e with e;exact hb (e ▸ hk)
 have nr:∀ k,ok k→some k≠some r:=fun k hk e=>by injection e with e;exact hr (e ▸ hk)
 refine⟨B.keepR g2 (fun e=>by injection e with e;exact hne e) nr,R,?_,?_,(P.good.keepR g1 nb).keepR g2 nr,P.same,hm,hz⟩
 ·exact(P.rl.keepR g1 (fun k hk=>nb k (P.own k hk).1)).keepR g2 (fun k hk=>nr k (P.own k hk).1)
 ·intro k hk
  exact⟨(P.own k hk).1,Nat.lt_of_lt_of_le (P.own k hk).2 (Nat.le_trans g1.size g2.size)⟩
theorem xi {p:Pl} (h:p.nms[0]?=some ⟨#[]⟩) (m:Mk):(maP p m).nms[0]?=some ⟨#[]⟩:=by
 unfold maP
 split <;> exact h
theorem rL {p:Pl} (h:p.nms[0]?=some ⟨#[]⟩) (es:List Ent):(dG p es).nms[0]?=some ⟨#[]⟩:=by
 unfold dG
 split <;> exact h
theorem xq {p:Pl} (h:MkD p) (es:List Ent):MkD (dG p es):=by
 unfold dG
 split <;> exact h
theorem Cz {es fs:List Ent} (h:es.map hp=fs.map hp) (n:Nat):lh es n=lh fs n:=by
 unfold lh
 cases he:es[n]? with
 | none =>
  have h1:fs[n]?=none:=List.getElem?_eq_none (by rw[←kF h];exact List.getElem?_eq_none_iff.1 he)
  rw[h1]
 | some e =>
  obtain⟨f,hf,h1,_⟩:=Cy h he
  rw[hf]
  simp only
  rw[h1]
theorem AQ {es fs:List Ent} (h:es.map hp=fs.map hp) (x:Pt):fq es x=fq fs x:=by
 unfold fq
 rw[rC h,Cz h]
theorem qL {es fs:List Ent} (h:es.map hp=fs.map hp):∀ ps,dC es ps=dC fs ps
 | []=>rfl
 | x :: r=>by simp only[dC,AQ h,qL h r]
theorem rP {es fs:List Ent} (h:es.map hp=fs.map hp):∀ {a b:List Ent},a.map hp=b.map hp→gY es a=gY fs b
 | [],[],_=>rfl
 | [],_ :: _,e=>by simp at e
 | _ :: _,[],e=>by simp at e
 | x :: r,y :: t,e=>by
  rw[List.map_cons,List.map_cons] at e
  injection e with e1 e2
  injection e1 with _ e1
  simp only[gY,qL h,e1,rP h e2]
theorem B8 {es fs:List Ent} (h:es.map hp=fs.map hp) (p:Pl):fX p es=fX p fs∧dG p es=dG p fs:=by
 have h1:fX p es=fX p fs:=by unfold fX;rw[rP h h]
 refine⟨h1,?_⟩
 unfold dG
 rw[h1]
theorem wK:MkD gG:=⟨rfl,fun m hm=>by simp[gG] at hm;exact Or.inl hm⟩
theorem qu (h:Hd) (v:Value) (ps:List Pt) (w:World) (hp:bY w v ps) (hL:jE ps.length):Calls Tryz.prog 51 #[cv h v] w fun e w'=>∃ a c,e=.returned (cv h (.slice a ps.length c))∧bA w' w.heap.size (.slice a ps.length c) ps∧w.grownBy w' none:=by
 have HP:Hid (bY w v ps):=hp
 obtain⟨nm,su,kd,co,po,he,tr,tk⟩:=h
 obtain⟨a,c,rfl⟩:=hp.form
 clear hp
 unfold cv
 simp only
 go_enter Tryz.func51,Tryz.ntmps51
 go_wp2_with fail
 refine(Ag _ ps _ (HP.out.keep (am (World.grownBy_alloc _ _ none) _)) hL.copy).mono ?_
 rintro e w1 ⟨u,rfl,o1,g1⟩
 obtain⟨a1,c1',rfl⟩:=o1.at.form
 rw[World.size_alloc,World.size_alloc] at o1
 have A2:CAt w1 w.heap.size ⟨nm,su,kd,co,po,he,tr,tk⟩ (.slice a ps.length c):=by
  refine CAt.keep ?_ g1
  exact CAt.keep (ak w (ccs ⟨nm,su,kd,co,po,he,tr,tk⟩ (.slice a ps.length c)) 111) (World.grownBy_alloc _ _ none)
 have Z2:CAt w1 (w.heap.size+1) Hd.none (.slice none 0 0):=by
  refine CAt.keep ?_ g1
  have:=ak (w.alloc (.cells (ccs ⟨nm,su,kd,co,po,he,tr,tk⟩ (.slice a ps.length c)) 111)) (ccs Hd.none (.slice none 0 0)) 111
  rw[World.size_alloc] at this
  exact this
 have G2:w.grownBy w1 none:=aa (am (World.grownBy_alloc _ _ none) _) g1
 clear g1
 obtain⟨c0,c1,c2,c3,c4,c5,c6,c7,c8⟩:=A2.cells
 obtain⟨z0,z1,z2,z3,z4,z5,z6,z7,z8⟩:=Z2.cells
 have f:=A2.free 8
 have e0:=Z2.free 0;have e1:=Z2.free 1;have e2:=Z2.free 2;have e3:=Z2.free 3;have e4:=Z2.free 4;have e5:=Z2.free 5;have e6:=Z2.free 6;have e7:=Z2.free 7;have e8:=Z2.free 8
 simp only[Hd.none] at c0 c1 c2 c3 c4 c5 c6 c7 c8 z0 z1 z2 z3 z4 z5 z6 z7 z8
 have HO:Hid (bA w1 (w.heap.size+1+1) (.slice a1 ps.length c1') ps):=o1
 have HG:Hid (w.grownBy w1 none):=G2
 clear A2 Z2 G2 o1 HP
 go_wp2
 refine bodyPost_ret (v:=.agg #[.string nm,.int .u8 su,.int .u8 kd,.int .i64 co,.int .i64 po,.int .i64 he,.int .u16 tr,.bool tk,.slice a1 ps.length c1']) (by simp[results,Tryz.results51,go_sem,z0,z1,z2,z3,z4,z5,z6,z7,z8]) rfl ⟨a1,c1',rfl,?_,?_⟩
 ·exact((HO.out.keep (aw _ _ 8 _) (fun x e=>by cases e;omega)).keep (gu _ (w.heap.size+1) _ _ _ _ _ _ _ _ _) (fun x e=>by cases e;omega)).big (by omega)
 ·exact az (az HG.out (aw _ _ 8 _) (fun x e=>by cases e;exact Nat.le_refl _)) (gu _ (w.heap.size+1) _ _ _ _ _ _ _ _ _) (fun x e=>by cases e;omega)
theorem Pr.card {ok:Nat→Prop} {w w1 w2 w3 w4:World} {b r:Nat} {v:Value} {es fs:List Ent} {p:Pl} {h:Hd} {u u':Value} {v':Value} {ps:List Pt} {t:Int} (P:Pr ok w b r v es fs p) (hr:¬ok r) (hne:¬b=r) (hnew:∀ k,w.heap.size≤k→ok k) (g1:w.grownBy w1 none) (B2:dV ok w2 b (if t=0 then ins es ⟨h,u,ps⟩ else es) p) (g2:w1.grownBy w2 (some b)) (g3:w2.grownBy w3 none) (Q1:RJ w4 r v' p) (Q2:RL w4 v' (if t=0 then ins fs ⟨h,u',ps⟩ else fs)) (Q3:v'=v∨∀ k,v'.ownBlock=some k→w3.heap.size≤k∧k<w4.heap.size) (Q4:cX (fun k=>(ok k∧k<w3.heap.size)∨(w3.heap.size≤k∧some k≠v'.ownBlock)) w4 (if t=0 then ins fs ⟨h,u',ps⟩ else fs)) (Q5:w3.grownBy w4 (some r)):∃ fs',Pr ok w4 b r v' (if t=0 then ins es ⟨h,u,ps⟩ else es) fs' p:=by
 have nr:∀ k,ok k→some k≠some r:=fun k hk e=>by cases e;exact hr hk
 have s1:w.heap.size≤w3.heap.size:=Nat.le_trans g1.size (Nat.le_trans g2.size g3.size)
 have s2:w3.heap.size≤w4.heap.size:=Q5.size
 refine⟨_,(B2.keep g3).keepR Q5 (fun e=>by cases e;exact hne rfl) nr,Q1,Q2,?_,?_,?_,P.mkd,P.zero⟩
 ·intro k hk
  rcases Q3 with rfl | Q3
  ·have:=P.own k hk
   exact⟨this.1,by omega⟩
  ·have:=Q3 k hk
   exact⟨hnew k (by omega),this.2⟩
 ·exact Q4.mono fun k hk=>hk.elim (fun h=>h.1) (fun h=>hnew k (by omega))
 ·by_cases h0:t=0
  ·rw[if_pos h0,if_pos h0];exact Cg P.same _ _ _ _
  ·rw[if_neg h0,if_neg h0];exact P.same
end Go.Proofs.YtjmepebbcnhalaaGreat
