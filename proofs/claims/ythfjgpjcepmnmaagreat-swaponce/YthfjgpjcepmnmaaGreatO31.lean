import Derived.Test.YthfjgpjcepmnmaaGreatO27
import Derived.Test.YthfjgpjcepmnmaaGreatO21
import Derived.Test.YthfjgpjcepmnmaaGreatO25
import Derived.Test.YthfjgpjcepmnmaaGreatTgR
import Derived.Test.YthfjgpjcepmnmaaGreatO14
import Derived.Test.YthfjgpjcepmnmaaGreatO19
import Derived.Test.YthfjgpjcepmnmaaGreatO13
import Derived.Test.YthfjgpjcepmnmaaGreatO12
import Derived.Test.YthfjgpjcepmnmaaGreatO3
import Derived.BigQuiet
import Derived.Test.YthfjgpjcepmnmaaGreatO16
import Derived.Test.YthfjgpjcepmnmaaGreatO15
namespace Go.Proofs.YthfjgpjcepmnmaaGreat
open Go.RowKit Go.Shelf
theorem ay.At.take {α:Type} {R:ay α} {w:World} {p:Option Addr} {n c:Nat} {l:List α} (h:R.At w (.slice p n c) l) (m:Nat) (hm:m≤n):R.At w (.slice p m c) (l.take m):=by
 obtain⟨p',c',e,hl,h1⟩:=h
 injection e with e1 e2 e3
 subst e1
 subst e3
 have hlm:(l.take m).length=m:=by rw[List.length_take];omega
 refine⟨p,c,by rw[hlm],by rw[hlm];omega,fun h0=>?_⟩
 rw[hlm] at h0
 obtain⟨g,off,e,hc⟩:=h1 (by omega)
 exact⟨g,off,e,fun j x hj=>hc j x (by
  rw[List.getElem?_take] at hj
  split at hj
  ·exact hj
  ·cases hj)⟩
def dg (h:Nat→Fe) (n k:Nat):List Fe:=(List.range n).map fun i=>if i<k then h i else Fe.none
theorem iU (h:Nat→Fe) (n k:Nat):(dg h n k).length=n:=by simp[dg]
theorem lG (h:Nat→Fe) (n:Nat):dg h n 0=List.replicate n Fe.none:=by
 refine List.ext_getElem (by simp[dg]) fun i h1 h2=>?_
 simp[dg]
theorem oD {h:Nat→Fe} {n k:Nat} {f:Fe} (e:h k=f):(dg h n k).set k f=dg h n (k+1):=by
 refine List.ext_getElem (by simp[dg]) fun i h1 h2=>?_
 rw[List.getElem_set]
 simp only[dg,List.getElem_map,List.getElem_range]
 by_cases q:k=i
 ·subst q
  rw[if_pos rfl,if_pos (by omega),e]
 ·rw[if_neg q]
  by_cases z:i<k
  ·rw[if_pos z,if_pos (by omega)]
  ·rw[if_neg z,if_neg (by omega)]
theorem mR {h:Nat→Fe} {n k:Nat} (e:h k=Fe.none):dg h n (k+1)=dg h n k:=by
 unfold dg
 refine List.map_congr_left fun i _=>?_
 by_cases q:i=k
 ·subst q
  rw[if_pos (by omega),if_neg (by omega),e]
 ·by_cases z:i<k
  ·rw[if_pos z,if_pos (by omega)]
  ·rw[if_neg z,if_neg (by omega)]
theorem ov (h:Nat→Fe) (n:Nat):dg h n n=(List.range n).map h:=by
 unfold dg
 exact List.map_congr_left fun i hi=>if_pos (List.mem_range.1 hi)
theorem BN:∀ r,r<5→(fec Fe.none)[r]?=some ((#[.int .i64 0,.int .u8 0,.int .u16 0,.int .i64 0,.int .i64 0]:Array Value)[r]!)
 | 0,_=>rfl
 | 1,_=>rfl
 | 2,_=>rfl
 | 3,_=>rfl
 | 4,_=>rfl
 | n+5,h=>by omega
theorem DN (n:Nat):(madeCells (Value.agg #[.int .i64 0,.int .u8 0,.int .u16 0,.int .i64 0,.int .i64 0]).cells (n*5)).toList=feR.cs (List.replicate n Fe.none):=by
 refine List.ext_getElem? fun i=>?_
 by_cases hi:i<n*5
 ·have h1:=feR.at' (l:=List.replicate n Fe.none) (j:=i / 5) (x:=Fe.none) (by rw[List.getElem?_replicate,if_pos (by omega)]) (i % 5) (show i % 5<5 by omega)
  have h2:(feR.cs (List.replicate n Fe.none))[i / 5*5+i % 5]?=(fec Fe.none)[i % 5]?:=h1
  rw[show i / 5*5+i % 5=i by omega,BN _ (by omega)] at h2
  rw[h2]
  show ((Array.range (n*5)).map _).toList[i]?=_
  rw[Array.toList_map,List.getElem?_map,Array.toList_range,List.getElem?_range hi]
  rfl
 ·rw[List.getElem?_eq_none (by rw[Array.length_toList,size_madeCells];omega),List.getElem?_eq_none (by rw[feR.len,List.length_replicate];show n*5≤i;omega)]
theorem sX {V:World} {base g n:Nat} (h:V.ownsRow base 65 5 (.slice (some ⟨g,0,none⟩) n n) n (madeCells (Value.agg #[.int .i64 0,.int .u8 0,.int .u16 0,.int .i64 0,.int .i64 0]).cells (n*5)).toList):bO V base (.slice (some ⟨g,0,none⟩) n n) (List.replicate n Fe.none):=by
 unfold bO ay.Own
 rw[List.length_replicate,←DN]
 exact h
theorem zW (pf:Th→Fe) (ts:List Th):dg (fun i=>tS pf (ts.getD i Th.none)) ts.length ts.length=dx pf ts:=by
 rw[ov]
 unfold dx
 refine List.ext_getElem (by simp) fun i h1 h2=>?_
 simp only[List.getElem_map,List.getElem_range]
 rw[aw (by simpa using h2)]
theorem jJ {w:World} {base g n k:Nat} {L:List Fe} (h:bO w base (.slice (some ⟨g,0,none⟩) n n) L) (hn:L.length=n) (hk:k<n):w.there g (k*5) 5:=ay.Own.there h hn hk
theorem mq {w:World} {base g n k:Nat} {L:List Fe} (h:bO w base (.slice (some ⟨g,0,none⟩) n n) L) (hn:L.length=n) (hk:k<n) (f:Fe):bO (w.setCells g (k*5) (fec f)) base (.slice (some ⟨g,0,none⟩) n n) (L.set k f)∧w.grownBy (w.setCells g (k*5) (fec f)) (some g):=ay.Own.set h hn hk f
theorem Aq (mf:Fe→Th→Fe) (ts:List Th) (fs:List Fe) (hl:ts.length=fs.length):dg (fun i=>yM mf (ts.getD i Th.none) (fs.getD i Fe.none)) fs.length fs.length=qw mf ts fs:=by
 rw[ov]
 unfold qw
 refine List.ext_getElem (by simp;omega) fun i h1 h2=>?_
 simp only[List.getElem_map,List.getElem_range,List.getElem_zipWith]
 simp only[List.length_zipWith] at h2
 rw[aw (by omega),aw (by omega)]
theorem wx {w:World} {g i:Nat} {v:Value} (h:w.cell? ⟨g,i,none⟩=some v):g<w.heap.size:=by
 unfold World.cell? at h
 cases hg:w.heap[g]? with
 | none=>simp[hg] at h
 | some o=>exact(Array.getElem?_eq_some_iff.1 hg).1

theorem EB {r n:Int} {cd:Int→Hd×List Pt} {ts:List Th} {fs:List Fe} {k:Int} (h:r≠0):bgE r n cd ts fs k=r:=by
 unfold bgE
 rw[uQ h,if_neg h]
end Go.Proofs.YthfjgpjcepmnmaaGreat
namespace Go.Proofs.YthfjgpjcepmnmaaGreat
open Go.RowKit
def qI (b:Nat) (k:Nat):Prop:=b<k
open Go.Shelf
def exP:Pl:={ bC with shut:=true }
theorem td {w:World} {g o:Nat} {v:Value} (h:w.cell? ⟨g,o,none⟩=some v):g<w.heap.size:=by
 by_cases hg:g<w.heap.size
 ·exact hg
 ·have:w.heap[g]?=none:=Array.getElem?_eq_none (by omega)
  simp[World.cell?,this] at h
theorem cj.oldL {ok:Nat→Prop} {w:World} {es:List Ent} (h:cj ok w es):cj (fun k=>ok k∧k<w.heap.size) w es:=fun e he=>by
 obtain⟨h1,h2⟩:=h e he
 refine⟨h1,fun g o n c ev hn=>⟨h2 g o n c ev hn,?_⟩⟩
 obtain⟨x,y,hf⟩:=h1.form
 rw[hf] at ev
 injection ev with e1 e2 e3
 have h0:0<e.ps.length:=by omega
 obtain⟨g',off,cap,ev',hP⟩:=h1.part h0
 rw[hf] at ev'
 injection ev' with e1' _ _
 rw[e1] at e1'
 injection e1' with e1'
 injection e1' with e1' _ _
 subst e1'
 obtain⟨p,hp⟩:∃ p,e.ps[0]?=some p:=⟨_,List.getElem?_eq_getElem h0⟩
 exact td (hP 0 p hp).c0
theorem cR.oldL {ok:Nat→Prop} {w:World} {b:Nat} {es:List Ent} {p:Pl} (h:cR ok w b es p):cR (fun k=>ok k∧k<w.heap.size) w b es p:=⟨h.lies,h.good.oldL,h.srt,h.fine,h.may⟩
theorem AW {w:World} {b i:Nat} {T:TypeId} {cs cs':Array Value} {u:Value} (h:w.heap[b]?=some (.cells cs T (0,0))) (e:cs.setIfInBounds i u=cs'):(w.setCell ⟨b,i,none⟩ u).heap[b]?=some (.cells cs' T (0,0)):=by rw[←e];exact ar h i u
theorem Tryz.linfoT:(Tryz.prog.info? 100).map (fun i=>(i.zero,i.size,i.bytes))=some (some (.agg #[.int .i64 0,.int .i64 0,.int .u8 0,.int .i64 0,.int .i64 0,.int .i64 0,.int .i64 0,.int .i64 0,.int .i64 0,.int .i64 0,.bool false]),11,88):=by kernel_rfl




end Go.Proofs.YthfjgpjcepmnmaaGreat
namespace Go.Proofs.YthfjgpjcepmnmaaGreat
set_option maxRecDepth 100000
open Go.ChangeShapes Go.WideShapes Go.ChangeAt Go.RowKit Go.Deep
theorem tw {H:Type} {enc:TypeId×Value→H} {w:World} {base:Nat} {sp:Nat→Bool} {held:Bool} {fuel:Nat} {l:List Value} {x:DataW H×List MemPlace} (hsz:l.length=11) (hf:DataW.trod enc Tryz.prog w base sp held fuel 100 l=some x):∃ t:Th,l=thc t:=by
 obtain⟨c0,c1,c2,c3,c4,c5,c6,c7,c8,c9,c10,rfl⟩:∃ c0 c1 c2 c3 c4 c5 c6 c7 c8 c9 c10,l=[c0,c1,c2,c3,c4,c5,c6,c7,c8,c9,c10]:=by
  match l,(show l.length=11 from hsz) with
  | [c0,c1,c2,c3,c4,c5,c6,c7,c8,c9,c10],_=>exact⟨c0,c1,c2,c3,c4,c5,c6,c7,c8,c9,c10,rfl⟩
 obtain⟨xs,n,_,hx,_,hlen,hfl⟩:=DataW.trod_struct Tryz.underlying100 hf
 match xs,hlen with
 | [y0,y1,y2,y3,y4,y5,y6,y7],_ =>
  have t0:DataW.trod enc Tryz.prog w base sp held n 3 (([c0,c1,c2,c3,c4,c5,c6,c7,c8,c9,c10].drop 0).take (Tryz.prog.cellsOf 3))=some y0:=hfl 0 _ rfl
  rw[qc] at t0
  have t1:DataW.trod enc Tryz.prog w base sp held n 3 (([c0,c1,c2,c3,c4,c5,c6,c7,c8,c9,c10].drop 1).take (Tryz.prog.cellsOf 3))=some y1:=hfl 1 _ rfl
  rw[qc] at t1
  have t2:DataW.trod enc Tryz.prog w base sp held n 97 (([c0,c1,c2,c3,c4,c5,c6,c7,c8,c9,c10].drop 2).take (Tryz.prog.cellsOf 97))=some y2:=hfl 2 _ rfl
  rw[Fu] at t2
  have t3:DataW.trod enc Tryz.prog w base sp held n 3 (([c0,c1,c2,c3,c4,c5,c6,c7,c8,c9,c10].drop 3).take (Tryz.prog.cellsOf 3))=some y3:=hfl 3 _ rfl
  rw[qc] at t3
  have t4:DataW.trod enc Tryz.prog w base sp held n 3 (([c0,c1,c2,c3,c4,c5,c6,c7,c8,c9,c10].drop 4).take (Tryz.prog.cellsOf 3))=some y4:=hfl 4 _ rfl
  rw[qc] at t4
  have t5:DataW.trod enc Tryz.prog w base sp held n 98 (([c0,c1,c2,c3,c4,c5,c6,c7,c8,c9,c10].drop 5).take (Tryz.prog.cellsOf 98))=some y5:=hfl 5 _ rfl
  rw[cOf4] at t5
  have t6:DataW.trod enc Tryz.prog w base sp held n 3 (([c0,c1,c2,c3,c4,c5,c6,c7,c8,c9,c10].drop 9).take (Tryz.prog.cellsOf 3))=some y6:=hfl 6 _ rfl
  rw[qc] at t6
  have t7:DataW.trod enc Tryz.prog w base sp held n 4 (([c0,c1,c2,c3,c4,c5,c6,c7,c8,c9,c10].drop 10).take (Tryz.prog.cellsOf 4))=some y7:=hfl 7 _ rfl
  rw[cOfB] at t7
  obtain⟨z0,e0,_,w0⟩:=DataW.trod_int Tryz.underlying3 (cs:=[c0]) t0
  simp only[List.cons.injEq,and_true] at e0
  subst e0
  obtain⟨z1,e1,_,w1⟩:=DataW.trod_int Tryz.underlying3 (cs:=[c1]) t1
  simp only[List.cons.injEq,and_true] at e1
  subst e1
  obtain⟨z2,e2,_,w2⟩:=DataW.trod_int Tryz.underlying97 (cs:=[c2]) t2
  simp only[List.cons.injEq,and_true] at e2
  subst e2
  obtain⟨z3,e3,_,w3⟩:=DataW.trod_int Tryz.underlying3 (cs:=[c3]) t3
  simp only[List.cons.injEq,and_true] at e3
  subst e3
  obtain⟨z4,e4,_,w4⟩:=DataW.trod_int Tryz.underlying3 (cs:=[c4]) t4
  simp only[List.cons.injEq,and_true] at e4
  subst e4
  obtain⟨z5,z6,z7,z8,rfl,rfl,rfl,rfl,w5,w6,w7,w8⟩:=um (c0:=c5) (c1:=c6) (c2:=c7) (c3:=c8) t5
  obtain⟨z9,e9,_,w9⟩:=DataW.trod_int Tryz.underlying3 (cs:=[c9]) t6
  simp only[List.cons.injEq,and_true] at e9
  subst e9
  obtain⟨z10,e10,_⟩:=DataW.trod_bool Tryz.underlying4 (cs:=[c10]) t7
  simp only[List.cons.injEq,and_true] at e10
  subst e10
  exact⟨⟨z0,z1,z2,z3,z4,z5,z6,z7,z8,z9,z10⟩,rfl⟩
theorem nI {H:Type} {enc:TypeId×Value→H} {w:World} {base:Nat} {sp:Nat→Bool} {held:Bool} {fuel:Nat} {l:List Value} {x:DataW H×List MemPlace} (hsz:l.length=5) (hf:DataW.trod enc Tryz.prog w base sp held fuel 65 l=some x):∃ f:Fe,l=fec f∧InI f.po∧InI f.he:=by
 obtain⟨c0,c1,c2,c3,c4,rfl⟩:∃ c0 c1 c2 c3 c4,l=[c0,c1,c2,c3,c4]:=by
  match l,(show l.length=5 from hsz) with
  | [c0,c1,c2,c3,c4],_=>exact⟨c0,c1,c2,c3,c4,rfl⟩
 obtain⟨xs,n,_,hx,_,hlen,hfl⟩:=DataW.trod_struct Tryz.underlying65 hf
 match xs,hlen with
 | [y0,y1,y2,y3,y4],_ =>
  have t0:DataW.trod enc Tryz.prog w base sp held n 3 (([c0,c1,c2,c3,c4].drop 0).take (Tryz.prog.cellsOf 3))=some y0:=hfl 0 _ rfl
  rw[qc] at t0
  have t1:DataW.trod enc Tryz.prog w base sp held n 34 (([c0,c1,c2,c3,c4].drop 1).take (Tryz.prog.cellsOf 34))=some y1:=hfl 1 _ rfl
  rw[FR] at t1
  have t2:DataW.trod enc Tryz.prog w base sp held n 51 (([c0,c1,c2,c3,c4].drop 2).take (Tryz.prog.cellsOf 51))=some y2:=hfl 2 _ rfl
  rw[Fr] at t2
  have t3:DataW.trod enc Tryz.prog w base sp held n 3 (([c0,c1,c2,c3,c4].drop 3).take (Tryz.prog.cellsOf 3))=some y3:=hfl 3 _ rfl
  rw[qc] at t3
  have t4:DataW.trod enc Tryz.prog w base sp held n 3 (([c0,c1,c2,c3,c4].drop 4).take (Tryz.prog.cellsOf 3))=some y4:=hfl 4 _ rfl
  rw[qc] at t4
  obtain⟨z0,e0,_,w0⟩:=DataW.trod_int Tryz.underlying3 (cs:=[c0]) t0
  simp only[List.cons.injEq,and_true] at e0
  subst e0
  obtain⟨z1,e1,_,w1⟩:=DataW.trod_int Tryz.underlying34 (cs:=[c1]) t1
  simp only[List.cons.injEq,and_true] at e1
  subst e1
  obtain⟨z2,e2,_,w2⟩:=DataW.trod_int Tryz.underlying51 (cs:=[c2]) t2
  simp only[List.cons.injEq,and_true] at e2
  subst e2
  obtain⟨z3,e3,_,w3⟩:=DataW.trod_int Tryz.underlying3 (cs:=[c3]) t3
  simp only[List.cons.injEq,and_true] at e3
  subst e3
  obtain⟨z4,e4,_,w4⟩:=DataW.trod_int Tryz.underlying3 (cs:=[c4]) t4
  simp only[List.cons.injEq,and_true] at e4
  subst e4
  exact⟨⟨z0,z1,z2,z3,z4⟩,rfl,kL w3,kL w4⟩
theorem oI {α:Type} [Inhabited α] (R:ay α) {T E:TypeId} (hu:Tryz.prog.underlying T=some (.slice E)) (hk:Tryz.prog.cellsOf E=R.k) {H:Type} {enc:TypeId×Value→H} {w:World} {base:Nat} {sp:Nat→Bool} {held:Bool} (hc:∀ {fuel:Nat} {l:List Value} {x:DataW H×List MemPlace},l.length=R.k→DataW.trod enc Tryz.prog w base sp held fuel E l=some x→∃ e,l=R.enc e) {fuel:Nat} {v:Value} {x:DataW H×List MemPlace} (h:DataW.trod enc Tryz.prog w base sp held fuel T [v]=some x):∃ l,R.At w v l:=by
 rcases open_slice hu h with ⟨hcs,_⟩ | ⟨a,len,cp,m,f,D,Pl,hcs,_,hl,hm,hmm,hxx,hx⟩
 ·simp at hcs
  subst hcs
  exact⟨[],ay.At.nil R w⟩
 ·simp at hcs
  subst hcs
  rw[hk] at hx
  have hnm:len≤m:=by rw[hmm];split <;> omega
  have hp:∀ i,i<len→∃ e:α,∀ k u,(R.enc e)[k]?=some u→w.cell? ((a.add (i*R.k)).add k)=some u:=fun i hi=>by
   obtain⟨cs',h1,h2⟩:=hx i (by omega)
   obtain⟨_,hlen,hcc⟩:=World.cells?_some h1
   obtain⟨e,he⟩:=hc hlen h2
   subst he
   refine⟨e,fun k y hk'=>?_⟩
   have hk4:k<R.k:=by have:=(List.getElem?_eq_some_iff.1 hk').1;rwa [R.hk] at this
   rw[hcc k hk4]
   exact hk'
  obtain⟨F,hF⟩:=choose_lt (α:=α) hp
  have hln:((List.range len).map F).length=len:=by simp
  refine⟨(List.range len).map F,some a,cp,by rw[hln],by rw[hln];exact Nat.le_trans hl hm,fun h0=>?_⟩
  have h0':0<len:=by rwa [hln] at h0
  obtain⟨v0,hv0⟩:∃ v0,(R.enc (F 0))[0]?=some v0:=⟨_,List.getElem?_eq_getElem (by rw[R.hk];exact R.hp)⟩
  have c0:=(hF 0 h0') 0 _ hv0
  have ex:(a.add (0*R.k)).add 0=a:=by simp[Addr.add]
  rw[ex] at c0
  have pl:=fJ c0
  refine⟨a.block,a.off,by rw[←pl],fun j e he=>?_⟩
  have hj:j<len:=by have:=(List.getElem?_eq_some_iff.1 he).1;rwa [hln] at this
  obtain rfl:e=F j:=by simp[hj] at he;exact he.symm
  intro k u hk'
  have:=hF j hj k u hk'
  rw[lp pl,pl,ci,←Nat.add_assoc] at this
  exact this
theorem EE:Tryz.prog.cellsOf 23=1:=by kernel_rfl
theorem EQ:Tryz.prog.cellsOf 24=1:=by kernel_rfl
end Go.Proofs.YthfjgpjcepmnmaaGreat
namespace Go.Proofs.YthfjgpjcepmnmaaGreat
set_option maxRecDepth 100000
set_option maxHeartbeats 4000000
open Go.RowKit Go.Shelf
theorem vi (v:Value) (l:List Th) (w:World) (h:thR.At w v l) (hb:l.length≤4096):Calls Tryz.prog 35 #[v] w fun e w'=>∃ v',e=.returned v'∧thR.Own 100 w' w.heap.size v' l∧w.grownBy w' none:=by
 obtain⟨i0,hi,hz0,hz1,hz2⟩:=info_parts Tryz.linfoT
 have HS:Hid (Src w v l.length 11 (thR.cs l)):=h.src
 obtain⟨n,hn⟩:∃ n,n=l.length:=⟨_,rfl⟩
 have HN:Hid (n=l.length):=hn
 have HL:Hid (0+n≤maxLen∧(0+n)*88≤140737488355328):=by show _∧_;unfold maxLen;omega
 rw[←hn] at HS
 clear h hb hn
 go_enter Tryz.func35,Tryz.ntmps35
 go_wp2_with (at_builtin;refine cm (by rfl) (.tmp 4) (.tmp 5) 23 rfl w.heap.size 100 i0 _ 11 88 Tryz.underlying23 hi hz0 hz1 hz2 rfl (by decide) _ 0 [] rfl (ay.Own.nil thR 100 w w.heap.size) _ n (thR.cs l) rfl HS.out (thR.ones l) HL.out.1 HL.out.2 (Nat.le_refl _) ?_;intro v3 w3 o3 g3 _;have HF:Hid (thR.Own 100 w3 w.heap.size v3 l∧w.grownBy w3 none):=⟨by unfold ay.Own;rw[←HN.out];rw[Nat.zero_add,List.nil_append] at o3;exact o3,g3⟩;clear o3 g3)
 go_ret
 exact⟨_,rfl,HF.out.1,HF.out.2⟩
theorem oN (w:World) (a b:Array Value) (s t:TypeId):((w.alloc (.cells a s)).alloc (.cells b t)).heap[w.heap.size]?=some (.cells a s (0,0)):=ae (World.grownBy_alloc _ _ none) (ai w a s) (by simp)


theorem vM (s:Sd) (w:World):(binOp .neq 40 (sdv s) (sdv s)).run Tryz.prog w=.ok (.bool false) w:=by
 rw[show sdv s=.agg (sdc s).toArray from rfl,run_neq_struct,mS,show dQ s s=true from eO.2 rfl];rfl
theorem D2 (op:BinOp) (x y:Operand) (xs ys:Array Value) (w:World):(eqGuard op 40 x y (.agg xs) (.agg ys)).run Tryz.prog w=.ok () w:=run_eqGuard_agg w op 40 x y xs ys (by kernel_rfl)
theorem wV (va vb:Value) (l:List Sd) (w:World) (A:sdR.At w va l) (B:sdR.At w vb l) (hs:l.length≤4096):Calls Tryz.prog 25 #[va,vb] w fun e w'=>e=.returned (.bool true)∧w.grownBy w' none:=by
 obtain⟨pa,ca,rfl⟩:=A.form
 obtain⟨pb,cb,rfl⟩:=B.form
 have HA:Hid (sdR.At w (.slice pa l.length ca) l):=A
 have HB:Hid (sdR.At w (.slice pb l.length cb) l):=B
 have hsm:bm l.length:=by unfold bm;omega
 have hnq:=fun (s:Sd) (w:World)=>(by have h:=vM s w;unfold sdv at h;exact h:(binOp .neq 40 (.agg #[.int .i64 s.th,.int .i64 s.pl,.int .u8 s.wh.wn,.int .u8 s.wh.vb,.int .u8 s.wh.wm,.int .i64 s.wh.ct,.int .u8 s.wh.su,.int .u8 s.wh.tr,.int .u8 s.wh.mr,.string s.wh.nm]) (.agg #[.int .i64 s.th,.int .i64 s.pl,.int .u8 s.wh.wn,.int .u8 s.wh.vb,.int .u8 s.wh.wm,.int .i64 s.wh.ct,.int .u8 s.wh.su,.int .u8 s.wh.tr,.int .u8 s.wh.mr,.string s.wh.nm])).run Tryz.prog w=.ok (.bool false) w)
 have hgq:=D2
 clear A B hs
 go_enter Tryz.func25,Tryz.ntmps25
 go_wp2_with fail
 go_loopw [5] (fun x5 wr=>∃ k:Nat,k≤l.length∧x5=.int .i64 (k:Int)∧w.grownBy wr none) (fun x5 _=>l.length - (intOf x5).toNat)
 case atStart=>exact⟨0,Nat.zero_le _,rfl,aq _ _⟩
 case round =>
  obtain⟨k,hk,rfl,G⟩:=hrel
  obtain⟨U,hU⟩:∃ U,U=wr:=⟨_,rfl⟩
  subst hU
  have HG:Hid (w.grownBy U none):=G
  clear G
  rcases (show k<l.length∨k=l.length from by omega) with hkl | hke
  ·have k0:(0:Int)≤(k:Int):=by omega
   have k1:(k:Int)<(l.length:Int):=by omega
   obtain⟨ga,oa,xa,ea,Ra⟩:=dU (HA.out.keep HG.out) hkl
   cases ea
   obtain⟨gb,ob,xb,eb,Rb⟩:=dU (HB.out.keep HG.out) hkl
   cases eb
   obtain⟨x,hx⟩:∃ x,x=l[k]:=⟨_,rfl⟩
   rw[←hx] at Ra Rb
   obtain⟨a0,a1,a2,a3,a4,a5,a6,a7,a8,a9⟩:=bu Ra
   obtain⟨b0,b1,b2,b3,b4,b5,b6,b7,b8,b9⟩:=bu Rb
   clear hx Ra Rb
   go_upto_region 6 with fail
   go_quiet (fail)
   go_wp2_with fail
   go_roundw
   case rel=>exact⟨k+1,hkl,by first | rfl | (rw[hsm.wrap hkl];rfl),aa HG.out (ax _ _ _)⟩
   case measure=>first | exact aB hkl | (rw[hsm.wrap hkl];exact aB hkl)
  ·have k1:¬(k:Int)<(l.length:Int):=by omega
   clear hke
   go_wp2_with fail
   go_ret
   exact⟨rfl,HG.out⟩
end Go.Proofs.YthfjgpjcepmnmaaGreat
namespace Go.Proofs.YthfjgpjcepmnmaaGreat
set_option maxRecDepth 100000
set_option maxHeartbeats 2000000
open Go.RowKit
theorem B9 {p:Pl} {es:List Ent} {c:Cd} (h0:caE p es c=0):p.shut=false∧dR c=0∧¬c.nm∈bs es:=by
 unfold caE at h0
 split at h0
 ·omega
 ·rename_i hs
  split at h0
  ·exact absurd h0 (by assumption)
  ·rename_i hq
   split at h0
   ·omega
   ·rename_i hz
    exact⟨by simpa using hs,by simpa using hq,qU (Int.not_le.1 hz)⟩
theorem yk (es:List Ent) (e:Ent):(bs (ins es e)).Perm (e.h.nm :: bs es):=by
 induction es with
 | nil=>exact List.Perm.refl _
 | cons y r ih =>
  rw[eu]
  split
  ·exact(List.Perm.cons _ ih).trans (List.Perm.swap _ _ _)
  ·exact List.Perm.refl _
theorem FL {es fs:List Ent} (h:es.map hp=fs.map hp) {m:Nat} {e:Ent} (he:es[m]?=some e):∃ f,fs[m]?=some f∧f.h=e.h∧f.ps=e.ps:=by
 have h1:(es.map hp)[m]?=some (hp e):=by rw[List.getElem?_map,he];rfl
 rw[h,List.getElem?_map] at h1
 cases hf:fs[m]? with
 | none=>rw[hf] at h1;cases h1
 | some f =>
  rw[hf] at h1
  injection h1 with h1
  injection h1 with h1 h2
  exact⟨f,rfl,h1,h2⟩
theorem Pr.step {ok:Nat→Prop} {w U1 U2:World} {b r:Nat} {v:Value} {es fs:List Ent} {p p':Pl} (P:Pr ok w b r v es fs p) (hb:¬ok b) (hr:¬ok r) (hne:¬b=r) (B:cR ok U1 b es p') (g1:w.grownBy U1 (some b)) (R:RJ U2 r v p') (g2:U1.grownBy U2 (some r)) (hm:MkD p') (hz:p'.nms[0]?=some ⟨#[]⟩):Pr ok U2 b r v es fs p':=by
 have nb:∀ k,ok k→some k≠some b:=fun k hk e=>by injection e with e;exact hb (e ▸ hk)
 have nr:∀ k,ok k→some k≠some r:=fun k hk e=>by injection e with e;exact hr (e ▸ hk)
 refine⟨B.keepR g2 (fun e=>by injection e with e;exact hne e) nr,R,?_,?_,(P.good.keepR g1 nb).keepR g2 nr,P.same,hm,hz⟩
 ·exact(P.rl.keepR g1 (fun k hk=>nb k (P.own k hk).1)).keepR g2 (fun k hk=>nr k (P.own k hk).1)
 ·intro k hk
  exact⟨(P.own k hk).1,Nat.lt_of_lt_of_le (P.own k hk).2 (Nat.le_trans g1.size g2.size)⟩
theorem xo {p:Pl} (h:p.nms[0]?=some ⟨#[]⟩) (m:Mk):(maP p m).nms[0]?=some ⟨#[]⟩:=by
 unfold maP
 split <;> exact h
theorem sO {p:Pl} (h:p.nms[0]?=some ⟨#[]⟩) (es:List Ent):(dv p es).nms[0]?=some ⟨#[]⟩:=by
 unfold dv
 split <;> exact h
theorem yx {p:Pl} (h:MkD p) (es:List Ent):MkD (dv p es):=by
 unfold dv
 split <;> exact h
theorem FB {es fs:List Ent} (h:es.map hp=fs.map hp) (n:Nat):l3 es n=l3 fs n:=by
 unfold l3
 cases he:es[n]? with
 | none =>
  have h1:fs[n]?=none:=List.getElem?_eq_none (by rw[←mF h];exact List.getElem?_eq_none_iff.1 he)
  rw[h1]
 | some e =>
  obtain⟨f,hf,h1,_⟩:=FL h he
  rw[hf]
  simp only
  rw[h1]
theorem Dl {es fs:List Ent} (h:es.map hp=fs.map hp) (x:Pt):eD es x=eD fs x:=by
 unfold eD
 rw[rB h,FB h]
theorem sI {es fs:List Ent} (h:es.map hp=fs.map hp):∀ ps,dn es ps=dn fs ps
 | []=>rfl
 | x :: r=>by simp only[dn,Dl h,sI h r]
theorem tm {es fs:List Ent} (h:es.map hp=fs.map hp):∀ {a b:List Ent},a.map hp=b.map hp→gn es a=gn fs b
 | [],[],_=>rfl
 | [],_ :: _,e=>by simp at e
 | _ :: _,[],e=>by simp at e
 | x :: r,y :: t,e=>by
  rw[List.map_cons,List.map_cons] at e
  injection e with e1 e2
  injection e1 with _ e1
  simp only[gn,sI h,e1,tm h e2]
theorem C6 {es fs:List Ent} (h:es.map hp=fs.map hp) (p:Pl):fq p es=fq p fs∧dv p es=dv p fs:=by
 have h1:fq p es=fq p fs:=by unfold fq;rw[tm h h]
 refine⟨h1,?_⟩
 unfold dv
 rw[h1]
theorem xS:MkD bC:=⟨rfl,fun m hm=>by simp[bC] at hm;exact Or.inl hm⟩
theorem p9 (h:Hd) (v:Value) (ps:List Pt) (w:World) (hp:bI w v ps) (hL:jm ps.length):Calls Tryz.prog 68 #[cv h v] w fun e w'=>∃ a c,e=.returned (cv h (.slice a ps.length c))∧bx w' w.heap.size (.slice a ps.length c) ps∧w.grownBy w' none:=by
 have HP:Hid (bI w v ps):=hp
 obtain⟨nm,su,kd,co,po,he,tr,tk⟩:=h
 obtain⟨a,c,rfl⟩:=hp.form
 clear hp
 unfold cv
 simp only
 go_enter Tryz.func68,Tryz.ntmps68
 go_wp2_with fail
 refine(Al _ ps _ (HP.out.keep (ak (World.grownBy_alloc _ _ none) _)) hL.copy).mono ?_
 rintro e w1 ⟨u,rfl,o1,g1⟩
 obtain⟨a1,c1',rfl⟩:=o1.at.form
 rw[World.size_alloc,World.size_alloc] at o1
 have A2:CAt w1 w.heap.size ⟨nm,su,kd,co,po,he,tr,tk⟩ (.slice a ps.length c):=by
  refine CAt.keep ?_ g1
  exact CAt.keep (ai w (ccs ⟨nm,su,kd,co,po,he,tr,tk⟩ (.slice a ps.length c)) 54) (World.grownBy_alloc _ _ none)
 have Z2:CAt w1 (w.heap.size+1) Hd.none (.slice none 0 0):=by
  refine CAt.keep ?_ g1
  have:=ai (w.alloc (.cells (ccs ⟨nm,su,kd,co,po,he,tr,tk⟩ (.slice a ps.length c)) 54)) (ccs Hd.none (.slice none 0 0)) 54
  rw[World.size_alloc] at this
  exact this
 have G2:w.grownBy w1 none:=aa (ak (World.grownBy_alloc _ _ none) _) g1
 clear g1
 obtain⟨c0,c1,c2,c3,c4,c5,c6,c7,c8⟩:=A2.cells
 obtain⟨z0,z1,z2,z3,z4,z5,z6,z7,z8⟩:=Z2.cells
 have f:=A2.free 8
 have e0:=Z2.free 0;have e1:=Z2.free 1;have e2:=Z2.free 2;have e3:=Z2.free 3;have e4:=Z2.free 4;have e5:=Z2.free 5;have e6:=Z2.free 6;have e7:=Z2.free 7;have e8:=Z2.free 8
 simp only[Hd.none] at c0 c1 c2 c3 c4 c5 c6 c7 c8 z0 z1 z2 z3 z4 z5 z6 z7 z8
 have HO:Hid (bx w1 (w.heap.size+1+1) (.slice a1 ps.length c1') ps):=o1
 have HG:Hid (w.grownBy w1 none):=G2
 clear A2 Z2 G2 o1 HP
 go_wp2
 refine bodyPost_ret (v:=.agg #[.string nm,.int .u8 su,.int .u8 kd,.int .i64 co,.int .i64 po,.int .i64 he,.int .u16 tr,.bool tk,.slice a1 ps.length c1']) (by simp[results,Tryz.results68,go_sem,z0,z1,z2,z3,z4,z5,z6,z7,z8]) rfl ⟨a1,c1',rfl,?_,?_⟩
 ·exact((HO.out.keep (aj _ _ 8 _) (fun x e=>by cases e;omega)).keep (fX _ (w.heap.size+1) _ _ _ _ _ _ _ _ _) (fun x e=>by cases e;omega)).big (by omega)
 ·exact am (am HG.out (aj _ _ 8 _) (fun x e=>by cases e;exact Nat.le_refl _)) (fX _ (w.heap.size+1) _ _ _ _ _ _ _ _ _) (fun x e=>by cases e;omega)
theorem Pr.card {ok:Nat→Prop} {w w1 w2 w3 w4:World} {b r:Nat} {v:Value} {es fs:List Ent} {p:Pl} {h:Hd} {u u':Value} {v':Value} {ps:List Pt} {t:Int} (P:Pr ok w b r v es fs p) (hr:¬ok r) (hne:¬b=r) (hnew:∀ k,w.heap.size≤k→ok k) (g1:w.grownBy w1 none) (B2:cR ok w2 b (if t=0 then ins es ⟨h,u,ps⟩ else es) p) (g2:w1.grownBy w2 (some b)) (g3:w2.grownBy w3 none) (Q1:RJ w4 r v' p) (Q2:RL w4 v' (if t=0 then ins fs ⟨h,u',ps⟩ else fs)) (Q3:v'=v∨∀ k,v'.ownBlock=some k→w3.heap.size≤k∧k<w4.heap.size) (Q4:cj (fun k=>(ok k∧k<w3.heap.size)∨(w3.heap.size≤k∧some k≠v'.ownBlock)) w4 (if t=0 then ins fs ⟨h,u',ps⟩ else fs)) (Q5:w3.grownBy w4 (some r)):∃ fs',Pr ok w4 b r v' (if t=0 then ins es ⟨h,u,ps⟩ else es) fs' p:=by
 have nr:∀ k,ok k→some k≠some r:=fun k hk e=>by cases e;exact hr hk
 have s1:w.heap.size≤w3.heap.size:=Nat.le_trans g1.size (Nat.le_trans g2.size g3.size)
 have s2:w3.heap.size≤w4.heap.size:=Q5.size
 refine⟨_,(B2.keep g3).keepR Q5 (fun e=>by cases e;exact hne rfl) nr,Q1,Q2,?_,?_,?_,P.mkd,P.zero⟩
 ·intro k hk
  rcases Q3 with rfl | Q3
  ·have:=P.own k hk
   exact⟨this.1,by omega⟩
  ·have:=Q3 k hk
   exact⟨hnew k (by omega),this.2⟩
 ·exact Q4.mono fun k hk=>hk.elim (fun h=>h.1) (fun h=>hnew k (by omega))
 ·by_cases h0:t=0
  ·rw[if_pos h0,if_pos h0];exact EG P.same _ _ _ _
  ·rw[if_neg h0,if_neg h0];exact P.same
end Go.Proofs.YthfjgpjcepmnmaaGreat
