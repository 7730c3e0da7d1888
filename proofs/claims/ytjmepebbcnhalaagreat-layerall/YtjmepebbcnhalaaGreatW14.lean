import Derived.Test.YtjmepebbcnhalaaGreatW9
import Derived.ProofKit
import Derived.OpenShut
import Derived.ChangeOld
import Derived.Deep.Slices
import Derived.SizedLaws
import Derived.Test.YtjmepebbcnhalaaGreatW3
import Derived.Test.YtjmepebbcnhalaaGreatWB4
import Derived.ChangeSlices
import Derived.Test.YtjmepebbcnhalaaGreatW13
import Derived.Laws.IdiomArrays
import Derived.ChangeAt
namespace Go.Proofs.YtjmepebbcnhalaaGreat
set_option maxRecDepth 100000
open Go.ChangeShapes Go.WideShapes Go.ChangeAt Go.RowKit Go.Deep
theorem Tryz.cells3':Tryz.prog.cellsOf 3=1:=by kernel_rfl
theorem Tryz.cells4':Tryz.prog.cellsOf 4=1:=by kernel_rfl
theorem Tryz.cells9':Tryz.prog.cellsOf 9=1:=by kernel_rfl
theorem Tryz.cells111':Tryz.prog.cellsOf 111=9:=by kernel_rfl
theorem Tryz.cells106':Tryz.prog.cellsOf 106=1:=by kernel_rfl
theorem Tryz.cells60':Tryz.prog.cellsOf 60=1:=by kernel_rfl
theorem Tryz.cells62':Tryz.prog.cellsOf 62=8:=by kernel_rfl
theorem Tryz.cells58':Tryz.prog.cellsOf 58=1:=by kernel_rfl
theorem Tryz.cells108':Tryz.prog.cellsOf 108=1:=by kernel_rfl
theorem Tryz.cells59':Tryz.prog.cellsOf 59=1:=by kernel_rfl
theorem Tryz.cells56':Tryz.prog.cellsOf 56=1:=by kernel_rfl
theorem Tryz.cells55':Tryz.prog.cellsOf 55=1:=by kernel_rfl
theorem Tryz.cells57':Tryz.prog.cellsOf 57=1:=by kernel_rfl
theorem Tryz.cells109':Tryz.prog.cellsOf 109=1:=by kernel_rfl
theorem Tryz.bytes62':Tryz.prog.bytesOf 62=40:=by kernel_rfl
structure Pwf (p:Pt):Prop where
 wn:(Lit.int .u8 p.wn).wf=true
 vb:(Lit.int .u8 p.vb).wf=true
 wm:(Lit.int .u8 p.wm).wf=true
 ct:(Lit.int .i64 p.ct).wf=true
 su:(Lit.int .u8 p.su).wf=true
 tr:(Lit.int .u8 p.tr).wf=true
 mr:(Lit.int .u8 p.mr).wf=true
 nm:p.nm.size≤maxLen
structure Hwf (h:Hd):Prop where
 nm:h.nm.size≤maxLen
 su:(Lit.int .u8 h.su).wf=true
 kd:(Lit.int .u8 h.kd).wf=true
 co:(Lit.int .i64 h.co).wf=true
 po:(Lit.int .i64 h.po).wf=true
 he:(Lit.int .i64 h.he).wf=true
 tr:(Lit.int .u16 h.tr).wf=true
theorem ya {H:Type} {enc:TypeId×Value→H} {w:World} {base:Nat} {sp:Nat→Bool} {held:Bool} {n:Nat} {a:Addr} {cs:List Value} {x:DataW H×List MemPlace}
  (h:w.cells? base a 8=some cs) (ht:DataW.trod enc Tryz.prog w base sp held n 62 cs=some x):∃ p:Pt,Pwf p∧∀ k u,(pvs p)[k]?=some u→w.cell? (a.add k)=some u:=by
 obtain⟨xs,m,_,hx,_,hn,hfl⟩:=DataW.trod_struct Tryz.underlying62 ht
 obtain⟨_,hl,hc⟩:=World.cells?_some h
 match cs,hl,xs,hn with
 | [c0,c1,c2,c3,c4,c5,c6,c7],_,[y0,y1,y2,y3,y4,y5,y6,y7],_ =>
  have t0:DataW.trod enc Tryz.prog w base sp held m 55 (([c0,c1,c2,c3,c4,c5,c6,c7].drop 0).take (Tryz.prog.cellsOf 55))=some y0:=hfl 0 _ rfl
  rw[Tryz.cells55'] at t0
  change DataW.trod enc Tryz.prog w base sp held m 55 [c0]=some y0 at t0
  obtain⟨z0,e0,hy0,w0⟩:=DataW.trod_int Tryz.underlying55 t0
  have t1:DataW.trod enc Tryz.prog w base sp held m 56 (([c0,c1,c2,c3,c4,c5,c6,c7].drop 1).take (Tryz.prog.cellsOf 56))=some y1:=hfl 1 _ rfl
  rw[Tryz.cells56'] at t1
  change DataW.trod enc Tryz.prog w base sp held m 56 [c1]=some y1 at t1
  obtain⟨z1,e1,hy1,w1⟩:=DataW.trod_int Tryz.underlying56 t1
  have t2:DataW.trod enc Tryz.prog w base sp held m 57 (([c0,c1,c2,c3,c4,c5,c6,c7].drop 2).take (Tryz.prog.cellsOf 57))=some y2:=hfl 2 _ rfl
  rw[Tryz.cells57'] at t2
  change DataW.trod enc Tryz.prog w base sp held m 57 [c2]=some y2 at t2
  obtain⟨z2,e2,hy2,w2⟩:=DataW.trod_int Tryz.underlying57 t2
  have t3:DataW.trod enc Tryz.prog w base sp held m 3 (([c0,c1,c2,c3,c4,c5,c6,c7].drop 3).take (Tryz.prog.cellsOf 3))=some y3:=hfl 3 _ rfl
  rw[Tryz.cells3'] at t3
  change DataW.trod enc Tryz.prog w base sp held m 3 [c3]=some y3 at t3
  obtain⟨z3,e3,hy3,w3⟩:=DataW.trod_int Tryz.underlying3 t3
  have t4:DataW.trod enc Tryz.prog w base sp held m 58 (([c0,c1,c2,c3,c4,c5,c6,c7].drop 4).take (Tryz.prog.cellsOf 58))=some y4:=hfl 4 _ rfl
  rw[Tryz.cells58'] at t4
  change DataW.trod enc Tryz.prog w base sp held m 58 [c4]=some y4 at t4
  obtain⟨z4,e4,hy4,w4⟩:=DataW.trod_int Tryz.underlying58 t4
  have t5:DataW.trod enc Tryz.prog w base sp held m 59 (([c0,c1,c2,c3,c4,c5,c6,c7].drop 5).take (Tryz.prog.cellsOf 59))=some y5:=hfl 5 _ rfl
  rw[Tryz.cells59'] at t5
  change DataW.trod enc Tryz.prog w base sp held m 59 [c5]=some y5 at t5
  obtain⟨z5,e5,hy5,w5⟩:=DataW.trod_int Tryz.underlying59 t5
  have t6:DataW.trod enc Tryz.prog w base sp held m 60 (([c0,c1,c2,c3,c4,c5,c6,c7].drop 6).take (Tryz.prog.cellsOf 60))=some y6:=hfl 6 _ rfl
  rw[Tryz.cells60'] at t6
  change DataW.trod enc Tryz.prog w base sp held m 60 [c6]=some y6 at t6
  obtain⟨z6,e6,hy6,w6⟩:=DataW.trod_int Tryz.underlying60 t6
  have t7:DataW.trod enc Tryz.prog w base sp held m 9 (([c0,c1,c2,c3,c4,c5,c6,c7].drop 7).take (Tryz.prog.cellsOf 9))=some y7:=hfl 7 _ rfl
  rw[Tryz.cells9'] at t7
  change DataW.trod enc Tryz.prog w base sp held m 9 [c7]=some y7 at t7
  obtain⟨z7,e7,hy7,w7⟩:=DataW.trod_string Tryz.underlying9 t7
  simp only[List.cons.injEq,and_true] at e0 e1 e2 e3 e4 e5 e6 e7
  subst e0 e1 e2 e3 e4 e5 e6 e7
  refine⟨⟨z0,z1,z2,z3,z4,z5,z6,z7⟩,⟨w0,w1,w2,w3,w4,w5,w6,w7⟩,fun k u hk=>?_⟩
  have hk8:k<8:=(List.getElem?_eq_some_iff.1 hk).1
  have:=hc k hk8
  rw[this]
  rw[←hk]
  rcases (show k=0∨k=1∨k=2∨k=3∨k=4∨k=5∨k=6∨k=7 from by omega) with rfl | rfl | rfl | rfl | rfl | rfl | rfl | rfl <;> rfl
theorem ka {a:Addr} (h:a=⟨a.block,a.off,none⟩) (i j:Nat):(a.add i).add j=a.add (i+j):=by
 rw[h,cG,cG,cG,Nat.add_assoc]
theorem tw {H:Type} {enc:TypeId×Value→H} {w:World} {base:Nat} {sp:Nat→Bool} {held:Bool} {fuel:Nat} {v:Value} {x:DataW H×List MemPlace}
  (h:DataW.trod enc Tryz.prog w base sp held fuel 109 [v]=some x) (hz:∀ n∈x.1.weights Tryz.prog 109,n≤reachBytes):∃ l,bY w v l∧jE l.length∧∀ p∈l,Pwf p:=by
 rcases open_slice Tryz.underlying109 h with ⟨hcs,_⟩ | ⟨a,len,cp,m,f,D,Pl,hcs,_,hl,hm,hmm,hxx,hx⟩
 ·simp at hcs
  subst hcs
  exact⟨[],Or.inl ⟨rfl,rfl⟩,by unfold jE;decide,by simp⟩
 ·simp at hcs
  subst hcs
  rw[Tryz.cells62'] at hx
  have hnm:len≤m:=by rw[hmm];split <;> omega
  have hp:∀ i,i<len→∃ p:Pt,Pwf p∧∀ k u,(pvs p)[k]?=some u→w.cell? ((a.add (i*8)).add k)=some u:=fun i hi=>by
   obtain⟨cs',h1,h2⟩:=hx i (by omega)
   exact ya h1 h2
  haveI:Inhabited Pt:=⟨⟨0,0,0,0,0,0,0,⟨#[]⟩⟩⟩
  obtain⟨F,hF⟩:=choose_lt (α:=Pt) hp
  refine⟨(List.range len).map F,Or.inr ⟨a,cp,by simp,by simpa using hl,fun j u hu=>?_⟩,?_,?_⟩
  ·have hj:j<len*8:=by
    have:=(List.getElem?_eq_some_iff.1 hu).1
    rw[f8] at this
    simpa using this
   have h0:0<len:=by omega
   have hi:j / 8<len:=by omega
   have hs:((List.range len).map F)[j / 8]?=some (F (j / 8)):=by simp[hi]
   have hq:=gR _ _ _ hs (j % 8) (by omega)
   rw[show j / 8*8+j % 8=j from by omega,hu] at hq
   have c0:=(hF 0 h0).2 0 _ rfl
   have ex:(a.add (0*8)).add 0=a:=by simp[Addr.add]
   rw[ex] at c0
   have:=(hF (j / 8) hi).2 (j % 8) u hq.symm
   rw[ka (fg c0),show j / 8*8+j % 8=j from by omega] at this
   exact this
  ·have hb:=hz ((len+(m - len))*40) (by rw[hxx];simp[DataW.weights,Tryz.underlying109,Tryz.bytes62'])
   unfold jE
   unfold reachBytes at hb
   simp only[List.length_map,List.length_range]
   omega
  ·intro p hpm
   obtain⟨i,hi,rfl⟩:=List.mem_map.1 hpm
   exact(hF i (List.mem_range.1 hi)).1
theorem ue {H:Type} {enc:TypeId×Value→H} {w:World} {base:Nat} {sp:Nat→Bool} {held:Bool} {fuel:Nat} {l:List Value} {x:DataW H×List MemPlace} (hsz:l.length=9) (hf:DataW.trod enc Tryz.prog w base sp held fuel 111 l=some x) (hz:∀ n∈x.1.weights Tryz.prog 111,n≤reachBytes):∃ (h:Hd) (u:Value) (ps:List Pt),l=cvs h u∧bY w u ps∧jE ps.length∧Hwf h∧∀ p∈ps,Pwf p:=by
 obtain⟨c0,c1,c2,c3,c4,c5,c6,c7,c8,rfl⟩:∃ c0 c1 c2 c3 c4 c5 c6 c7 c8,l=[c0,c1,c2,c3,c4,c5,c6,c7,c8]:=by
  match l,hsz with
  | [c0,c1,c2,c3,c4,c5,c6,c7,c8],_=>exact⟨c0,c1,c2,c3,c4,c5,c6,c7,c8,rfl⟩
 obtain⟨xs,n,_,hx,_,hlen,hfl⟩:=DataW.trod_struct Tryz.underlying111 hf
 match xs,hlen with
 | [y0,y1,y2,y3,y4,y5,y6,y7,y8],_ =>
  have t0:DataW.trod enc Tryz.prog w base sp held n 9 (([c0,c1,c2,c3,c4,c5,c6,c7,c8].drop 0).take (Tryz.prog.cellsOf 9))=some y0:=hfl 0 _ rfl
  rw[Tryz.cells9'] at t0
  change DataW.trod enc Tryz.prog w base sp held n 9 [c0]=some y0 at t0
  obtain⟨z0,e0,hy0,w0⟩:=DataW.trod_string Tryz.underlying9 t0
  have t1:DataW.trod enc Tryz.prog w base sp held n 58 (([c0,c1,c2,c3,c4,c5,c6,c7,c8].drop 1).take (Tryz.prog.cellsOf 58))=some y1:=hfl 1 _ rfl
  rw[Tryz.cells58'] at t1
  change DataW.trod enc Tryz.prog w base sp held n 58 [c1]=some y1 at t1
  obtain⟨z1,e1,hy1,w1⟩:=DataW.trod_int Tryz.underlying58 t1
  have t2:DataW.trod enc Tryz.prog w base sp held n 106 (([c0,c1,c2,c3,c4,c5,c6,c7,c8].drop 2).take (Tryz.prog.cellsOf 106))=some y2:=hfl 2 _ rfl
  rw[Tryz.cells106'] at t2
  change DataW.trod enc Tryz.prog w base sp held n 106 [c2]=some y2 at t2
  obtain⟨z2,e2,hy2,w2⟩:=DataW.trod_int Tryz.underlying106 t2
  have t3:DataW.trod enc Tryz.prog w base sp held n 3 (([c0,c1,c2,c3,c4,c5,c6,c7,c8].drop 3).take (Tryz.prog.cellsOf 3))=some y3:=hfl 3 _ rfl
  rw[Tryz.cells3'] at t3
  change DataW.trod enc Tryz.prog w base sp held n 3 [c3]=some y3 at t3
  obtain⟨z3,e3,hy3,w3⟩:=DataW.trod_int Tryz.underlying3 t3
  have t4:DataW.trod enc Tryz.prog w base sp held n 3 (([c0,c1,c2,c3,c4,c5,c6,c7,c8].drop 4).take (Tryz.prog.cellsOf 3))=some y4:=hfl 4 _ rfl
  rw[Tryz.cells3'] at t4
  change DataW.trod enc Tryz.prog w base sp held n 3 [c4]=some y4 at t4
  obtain⟨z4,e4,hy4,w4⟩:=DataW.trod_int Tryz.underlying3 t4
  have t5:DataW.trod enc Tryz.prog w base sp held n 3 (([c0,c1,c2,c3,c4,c5,c6,c7,c8].drop 5).take (Tryz.prog.cellsOf 3))=some y5:=hfl 5 _ rfl
  rw[Tryz.cells3'] at t5
  change DataW.trod enc Tryz.prog w base sp held n 3 [c5]=some y5 at t5
  obtain⟨z5,e5,hy5,w5⟩:=DataW.trod_int Tryz.underlying3 t5
  have t6:DataW.trod enc Tryz.prog w base sp held n 108 (([c0,c1,c2,c3,c4,c5,c6,c7,c8].drop 6).take (Tryz.prog.cellsOf 108))=some y6:=hfl 6 _ rfl
  rw[Tryz.cells108'] at t6
  change DataW.trod enc Tryz.prog w base sp held n 108 [c6]=some y6 at t6
  obtain⟨z6,e6,hy6,w6⟩:=DataW.trod_int Tryz.underlying108 t6
  have t7:DataW.trod enc Tryz.prog w base sp held n 4 (([c0,c1,c2,c3,c4,c5,c6,c7,c8].drop 7).take (Tryz.prog.cellsOf 4))=some y7:=hfl 7 _ rfl
  rw[Tryz.cells4'] at t7
  change DataW.trod enc Tryz.prog w base sp held n 4 [c7]=some y7 at t7
  obtain⟨z7,e7,hy7⟩:=DataW.trod_bool Tryz.underlying4 t7
  have t8:DataW.trod enc Tryz.prog w base sp held n 109 (([c0,c1,c2,c3,c4,c5,c6,c7,c8].drop 8).take (Tryz.prog.cellsOf 109))=some y8:=hfl 8 _ rfl
  rw[Tryz.cells109'] at t8
  change DataW.trod enc Tryz.prog w base sp held n 109 [c8]=some y8 at t8
  simp only[List.cons.injEq,and_true] at e0 e1 e2 e3 e4 e5 e6 e7
  subst e0 e1 e2 e3 e4 e5 e6 e7
  obtain⟨L,h1,h2,h3⟩:=tw t8 (fun n hn=>hz n (by
   rw[hx]
   simp only[DataW.weights,Tryz.underlying111]
   exact DataW.weights_mem_each (j:=8) rfl rfl n hn))
  exact⟨⟨z0,z1,z2,z3,z4,z5,z6,z7⟩,c8,L,rfl,h1,h2,⟨w0,w1,w2,w3,w4,w5,w6⟩,h3⟩
end Go.Proofs.YtjmepebbcnhalaaGreat
namespace Go.Proofs.YtjmepebbcnhalaaGreat
set_option maxHeartbeats 1000000
open Go.RowKit
theorem Ag (v:Value) (ps:List Pt) (w:World) (h:bY w v ps) (hb:ps.length*40≤140737488355328):Calls Tryz.prog 115 #[v] w fun e w'=>∃ u,e=.returned u∧bA w' w.heap.size u ps∧w.grownBy w' none:=by
 obtain⟨i0,hi,hz0,hz1,hz2⟩:=lq Tryz.info62
 go_enter Tryz.func115,Tryz.ntmps115
 rcases h with ⟨rfl,rfl⟩ | ⟨ad,cap,rfl,hc,h⟩
 ·go_wp2
  go_ret
  exact⟨_,rfl,bA.nil _ _,ay _ _⟩
 ·go_wp2_with (at_builtin;refine wpList_append_own_at _ rfl _ _ 109 rfl w.heap.size 62 i0 _ 8 40 Tryz.underlying109 hi hz0 hz1 hz2 rfl (by decide) _ 0 [] rfl (bA.nil w _) ad ps.length cap (cZ ps) rfl (f8 ps) h (iq ps) (by unfold maxLen;omega) (by rw[Nat.zero_add];exact hb) (Nat.le_refl _) ?_;intro v1 w1 o1 g1 _ _)
  go_ret
  refine⟨_,rfl,?_,g1⟩
  simpa [bA] using o1


set_option maxRecDepth 100000
open Go.ChangeShapes Go.WideShapes Go.ChangeAt Go.Deep
theorem l9 {n:Int} (h:(Lit.int .u8 n).wf=true):0≤n∧n≤255:=by
 simp[Lit.wf,IntKind.min,IntKind.max,IntKind.signed,IntKind.bits] at h
 omega
theorem Af {n:Int} (h:(Lit.int .u16 n).wf=true):0≤n∧n≤65535:=by
 simp[Lit.wf,IntKind.min,IntKind.max,IntKind.signed,IntKind.bits] at h
 omega
theorem lI {n:Int} (h:(Lit.int .i64 n).wf=true):-9223372036854775808≤n∧n≤9223372036854775807:=by
 have h1:IntKind.i64.min=-9223372036854775808:=rfl
 have h2:IntKind.i64.max=9223372036854775807:=rfl
 simp[Lit.wf,h1,h2] at h
 omega
theorem CQ {h:Hd} {ps:List Pt} (k:Hwf h) (q:∀ p∈ps,Pwf p):(h.with ps).wf:=⟨l9 k.su,l9 k.kd,lI k.co,lI k.po,lI k.he,Af k.tr,fun p hp=>⟨l9 (q p hp).wn,l9 (q p hp).vb,l9 (q p hp).wm,lI (q p hp).ct,l9 (q p hp).su,l9 (q p hp).tr,l9 (q p hp).mr⟩⟩
theorem Tryz.cells115'':Tryz.prog.cellsOf 115=4:=by kernel_rfl
theorem Tryz.cells60'':Tryz.prog.cellsOf 60=1:=by kernel_rfl
theorem sY {H:Type} {enc:TypeId×Value→H} {w:World} {base:Nat} {sp:Nat→Bool} {held:Bool} {fuel:Nat} {l:List Value} {x:DataW H×List MemPlace} (hsz:l.length=4) (hf:DataW.trod enc Tryz.prog w base sp held fuel 115 l=some x):∃ m:Mk,l=mvs m∧(0≤m.mi∧m.mi≤255):=by
 obtain⟨c0,c1,c2,c3,rfl⟩:∃ c0 c1 c2 c3,l=[c0,c1,c2,c3]:=by
  match l,hsz with
  | [c0,c1,c2,c3],_=>exact⟨c0,c1,c2,c3,rfl⟩
 obtain⟨xs,n,_,hx,_,hlen,hfl⟩:=DataW.trod_struct Tryz.underlying115 hf
 match xs,hlen with
 | [y0,y1,y2,y3],_ =>
  have t0:DataW.trod enc Tryz.prog w base sp held n 60 (([c0,c1,c2,c3].drop 0).take (Tryz.prog.cellsOf 60))=some y0:=hfl 0 _ rfl
  have t1:DataW.trod enc Tryz.prog w base sp held n 9 (([c0,c1,c2,c3].drop 1).take (Tryz.prog.cellsOf 9))=some y1:=hfl 1 _ rfl
  have t2:DataW.trod enc Tryz.prog w base sp held n 3 (([c0,c1,c2,c3].drop 2).take (Tryz.prog.cellsOf 3))=some y2:=hfl 2 _ rfl
  have t3:DataW.trod enc Tryz.prog w base sp held n 3 (([c0,c1,c2,c3].drop 3).take (Tryz.prog.cellsOf 3))=some y3:=hfl 3 _ rfl
  rw[Tryz.cells60''] at t0
  rw[Tryz.cells9'] at t1
  rw[Tryz.cells3'] at t2 t3
  obtain⟨z0,e0,_,w0⟩:=DataW.trod_int Tryz.underlying60 (cs:=[c0]) t0
  obtain⟨z1,e1,_,_⟩:=DataW.trod_string Tryz.underlying9 (cs:=[c1]) t1
  obtain⟨z2,e2,_,_⟩:=DataW.trod_int Tryz.underlying3 (cs:=[c2]) t2
  obtain⟨z3,e3,_,_⟩:=DataW.trod_int Tryz.underlying3 (cs:=[c3]) t3
  simp only[List.cons.injEq,and_true] at e0 e1 e2 e3
  subst e0 e1 e2 e3
  exact⟨⟨z0,z1,z2,z3⟩,rfl,by have h0:=w0;simp[Lit.wf,IntKind.min,IntKind.max,IntKind.signed,IntKind.bits] at h0;omega⟩
theorem BM:Tryz.prog.bytesOf 111=80:=by kernel_rfl
theorem BS:Tryz.prog.bytesOf 115=40:=by kernel_rfl
theorem mK {H:Type} {P:Program} {e:TypeId} {n:Nat}:∀ {l:List (DataW H)} {d:DataW H},d∈l→n∈d.weights P e→n∈DataW.weightsAll P e l
 | x :: r,d,hd,hn=>by
  simp only[DataW.weightsAll,List.mem_append]
  rcases List.mem_cons.1 hd with rfl | hd
  ·exact Or.inl hn
  ·exact Or.inr (mK hd hn)
theorem tU {H:Type} {enc:TypeId×Value→H} {w:World} {base:Nat} {sp:Nat→Bool} {held:Bool} {fuel:Nat} {v:Value} {x:DataW H×List MemPlace}
  (h:DataW.trod enc Tryz.prog w base sp held fuel 22 [v]=some x) (hz:∀ n∈x.1.weights Tryz.prog 22,n≤reachBytes):∃ cs:List Ent,(∃ a k,v=.slice a cs.length k∧(0<cs.length→∃ g o,a=some ⟨g,o,none⟩∧ll w g o cs))∧(∀ e∈cs,bY w e.v e.ps∧jE e.ps.length∧(e.h.with e.ps).wf)∧aZ cs.length:=by
 rcases open_slice Tryz.underlying22 h with ⟨hcs,_⟩ | ⟨a,len,cp,m,f,D,Pl,hcs,_,hl,hm,hmm,hxx,hx⟩
 ·simp at hcs
  subst hcs
  exact⟨[],⟨none,0,rfl,fun h0=>by simp at h0⟩,by simp,by unfold aZ;decide⟩
 ·simp at hcs
  subst hcs
  rw[Tryz.cells111'] at hx
  have hnm:len≤m:=by rw[hmm];split <;> omega
  have hp:∀ i,i<len→∃ e:Ent,(bY w e.v e.ps∧jE e.ps.length∧(e.h.with e.ps).wf)∧∀ k u,(cvs e.h e.v)[k]?=some u→w.cell? ((a.add (i*9)).add k)=some u:=fun i hi=>by
   obtain⟨cs',h1,h2⟩:=hx i (by omega)
   obtain⟨_,hlen,hc⟩:=World.cells?_some h1
   obtain⟨hd,u,ps,e,p1,p2,p3⟩:=ue hlen h2 (fun n hn=>hz n (by
    rw[hxx]
    simp only[DataW.weights,Tryz.underlying22]
    exact List.mem_cons_of_mem _ (List.mem_append_left _ (mK (List.mem_map.2 ⟨i,List.mem_range.2 hi,rfl⟩) hn))))
   subst e
   refine⟨⟨hd,u,ps⟩,⟨p1,p2,CQ p3.1 p3.2⟩,fun k y hk=>?_⟩
   have hk9:k<9:=(List.getElem?_eq_some_iff.1 hk).1
   rw[hc k hk9]
   exact hk
  haveI:Inhabited Ent:=⟨⟨Hd.none,.bool false,[]⟩⟩
  obtain⟨F,hF⟩:=choose_lt (α:=Ent) hp
  refine⟨(List.range len).map F,⟨some a,cp,by simp,fun h0=>?_⟩,?_,?_⟩
  ·have h0':0<len:=by simpa using h0
   have c0:=(hF 0 h0').2 0 _ rfl
   have ex:(a.add (0*9)).add 0=a:=by simp[Addr.add]
   rw[ex] at c0
   have pl:=fg c0
   refine⟨a.block,a.off,by rw[←pl],fun j e he=>?_⟩
   have hj:j<len:=by have:=(List.getElem?_eq_some_iff.1 he).1;simpa using this
   obtain rfl:e=F j:=by simp[hj] at he;exact he.symm
   have at_:∀ k u,(cvs (F j).h (F j).v)[k]?=some u→w.cell? ⟨a.block,a.off+j*9+k,none⟩=some u:=fun k u hk=>by
    have:=(hF j hj).2 k u hk
    rw[ka pl,pl,cG,←Nat.add_assoc] at this
    exact this
   exact⟨at_ 0 _ rfl,at_ 1 _ rfl,at_ 2 _ rfl,at_ 3 _ rfl,at_ 4 _ rfl,at_ 5 _ rfl,at_ 6 _ rfl,at_ 7 _ rfl,at_ 8 _ rfl⟩
  ·intro e he
   obtain⟨i,hi,rfl⟩:=List.mem_map.1 he
   exact(hF i (List.mem_range.1 hi)).1
  ·have hb:=hz ((len+(m - len))*80) (by rw[hxx];simp[DataW.weights,Tryz.underlying22,BM])
   unfold reachBytes at hb
   unfold aZ
   simp only[List.length_map,List.length_range]
   omega
theorem uj {H:Type} {enc:TypeId×Value→H} {w:World} {base:Nat} {sp:Nat→Bool} {held:Bool} {fuel:Nat} {v:Value} {x:DataW H×List MemPlace}
  (h:DataW.trod enc Tryz.prog w base sp held fuel 23 [v]=some x) (hz:∀ n∈x.1.weights Tryz.prog 23,n≤reachBytes):∃ ms:List Mk,(∃ a k,v=.slice a ms.length k∧(0<ms.length→∃ g o,a=some ⟨g,o,none⟩∧MAt w g o ms))∧(∀ m∈ms,0≤m.mi∧m.mi≤255)∧aZ ms.length:=by
 rcases open_slice Tryz.underlying23 h with ⟨hcs,_⟩ | ⟨a,len,cp,m,f,D,Pl,hcs,_,hl,hm,hmm,hxx,hx⟩
 ·simp at hcs
  subst hcs
  exact⟨[],⟨none,0,rfl,fun h0=>by simp at h0⟩,by simp,by unfold aZ;decide⟩
 ·simp at hcs
  subst hcs
  rw[Tryz.cells115''] at hx
  have hnm:len≤m:=by rw[hmm];split <;> omega
  have hp:∀ i,i<len→∃ e:Mk,(0≤e.mi∧e.mi≤255)∧∀ k u,(mvs e)[k]?=some u→w.cell? ((a.add (i*4)).add k)=some u:=fun i hi=>by
   obtain⟨cs',h1,h2⟩:=hx i (by omega)
   obtain⟨_,hlen,hc⟩:=World.cells?_some h1
   obtain⟨e,he,hr⟩:=sY hlen h2
   subst he
   refine⟨e,hr,fun k y hk=>?_⟩
   have hk4:k<4:=(List.getElem?_eq_some_iff.1 hk).1
   rw[hc k hk4]
   exact hk
  haveI:Inhabited Mk:=⟨Mk.none⟩
  obtain⟨F,hF⟩:=choose_lt (α:=Mk) hp
  refine⟨(List.range len).map F,⟨some a,cp,by simp,fun h0=>?_⟩,fun m hm=>by obtain⟨i,hi,rfl⟩:=List.mem_map.1 hm;exact(hF i (List.mem_range.1 hi)).1,by
   have hb:=hz ((len+(m - len))*40) (by rw[hxx];simp[DataW.weights,Tryz.underlying23,BS])
   unfold reachBytes at hb
   unfold aZ
   simp only[List.length_map,List.length_range]
   omega⟩
  have h0':0<len:=by simpa using h0
  have c0:=(hF 0 h0').2 0 _ rfl
  have ex:(a.add (0*4)).add 0=a:=by simp[Addr.add]
  rw[ex] at c0
  have pl:=fg c0
  refine⟨a.block,a.off,by rw[←pl],fun j e he=>?_⟩
  have hj:j<len:=by have:=(List.getElem?_eq_some_iff.1 he).1;simpa using this
  obtain rfl:e=F j:=by simp[hj] at he;exact he.symm
  have at_:∀ k u,(mvs (F j))[k]?=some u→w.cell? ⟨a.block,a.off+j*4+k,none⟩=some u:=fun k u hk=>by
   have:=(hF j hj).2 k u hk
   rw[ka pl,pl,cG,←Nat.add_assoc] at this
   exact this
  exact⟨at_ 0 _ rfl,at_ 1 _ rfl,at_ 2 _ rfl,at_ 3 _ rfl⟩
structure FiA (w:World) (vc vm:Value) (cs:List Ent) (ms:List Mk):Prop where
 c:∃ a k,vc=.slice a cs.length k∧(0<cs.length→∃ g o,a=some ⟨g,o,none⟩∧ll w g o cs)
 m:∃ a k,vm=.slice a ms.length k∧(0<ms.length→∃ g o,a=some ⟨g,o,none⟩∧MAt w g o ms)
 ps:∀ e∈cs,bY w e.v e.ps∧jE e.ps.length∧(e.h.with e.ps).wf
 mr:∀ m∈ms,0≤m.mi∧m.mi≤255
 cz:aZ cs.length
 mz:aZ ms.length
theorem FiA.keep {w w':World} {vc vm:Value} {cs:List Ent} {ms:List Mk} (h:FiA w vc vm cs ms) (g:w.grownBy w' none):FiA w' vc vm cs ms:=by
 obtain⟨⟨a,k,e,h1⟩,⟨c,m,i,h3⟩,h4,h5,h6,h7⟩:=h
 refine⟨⟨a,k,e,fun h0=>?_⟩,⟨c,m,i,fun h0=>?_⟩,fun e he=>⟨(h4 e he).1.keep g,(h4 e he).2⟩,h5,h6,h7⟩
 ·obtain⟨x,o,e1,e2⟩:=h1 h0;exact⟨x,o,e1,e2.keep g⟩
 ·obtain⟨x,o,e1,e2⟩:=h3 h0;exact⟨x,o,e1,e2.keep g⟩
theorem ra:Tryz.prog.cellsOf 25=3:=by kernel_rfl
theorem Tryz.cells22'':Tryz.prog.cellsOf 22=1:=by kernel_rfl
theorem Tryz.cells4'':Tryz.prog.cellsOf 4=1:=by kernel_rfl
theorem Tryz.cells23'':Tryz.prog.cellsOf 23=1:=by kernel_rfl
theorem xX {H:Type} {enc:TypeId×Value→H} {w:World} {base:Nat} {sp:Nat→Bool} {held:Bool} {r:Reach} {b0:Nat} {v:Value} {d:DataW H} {pl:List MemPlace} (hval:Value.okWide Tryz.prog w r b0 25 v) (hd:DataW.Trod enc Tryz.prog w base sp held 25 v d pl) (hz:∀ n∈d.weights Tryz.prog 25,n≤reachBytes):∃ (vc vm:Value) (op:Bool) (cs:List Ent) (ms:List Mk),v=.agg #[vc,vm,.bool op]∧FiA w vc vm cs ms:=by
 obtain⟨cs,rfl,hsz⟩:=okWide_struct Tryz.underlying25 hval
 rw[ra] at hsz
 obtain⟨fuel,hf⟩:=hd
 obtain⟨l⟩:=cs
 obtain⟨c0,c1,c2,rfl⟩:∃ c0 c1 c2,l=[c0,c1,c2]:=by
  match l,(show l.length=3 from hsz) with
  | [c0,c1,c2],_=>exact⟨c0,c1,c2,rfl⟩
 obtain⟨xs,n,_,hx,_,hlen,hfl⟩:=DataW.trod_struct Tryz.underlying25 hf
 match xs,hlen with
 | [y0,y1,y2],_ =>
  have t0:DataW.trod enc Tryz.prog w base sp held n 22 (([c0,c1,c2].drop 0).take (Tryz.prog.cellsOf 22))=some y0:=hfl 0 _ rfl
  have t1:DataW.trod enc Tryz.prog w base sp held n 23 (([c0,c1,c2].drop 1).take (Tryz.prog.cellsOf 23))=some y1:=hfl 1 _ rfl
  have t2:DataW.trod enc Tryz.prog w base sp held n 4 (([c0,c1,c2].drop 2).take (Tryz.prog.cellsOf 4))=some y2:=hfl 2 _ rfl
  rw[Tryz.cells22''] at t0
  rw[Tryz.cells23''] at t1
  rw[Tryz.cells4''] at t2
  obtain⟨cs,hC,hP,hCz⟩:=tU (v:=c0) t0 (fun n hn=>hz n (by
   rw[(Prod.mk.inj hx).1]
   simp only[DataW.weights,Tryz.underlying25]
   exact DataW.weights_mem_each (j:=0) rfl rfl n hn))
  obtain⟨ms,hM,hK,hMz⟩:=uj (v:=c1) t1 (fun n hn=>hz n (by
   rw[(Prod.mk.inj hx).1]
   simp only[DataW.weights,Tryz.underlying25]
   exact DataW.weights_mem_each (j:=1) rfl rfl n hn))
  obtain⟨op,e2,_⟩:=DataW.trod_bool Tryz.underlying4 (cs:=[c2]) t2
  simp only[List.cons.injEq,and_true] at e2
  subst e2
  exact⟨c0,c1,op,cs,ms,rfl,hC,hM,hP,hK,hCz,hMz⟩
theorem Tryz.own:ownKnob Tryz.prog.godebug=none:=by kernel_rfl
theorem Tryz.laidOut:laidOutB Tryz.prog=true:=by kernel_rfl
def thv (t:Th):Value:=.agg #[.int .i64 t.card,.int .i64 t.owner,.int .u8 t.place,.int .i64 t.stamp,.int .i64 t.hurt,.int .i64 t.m0,.int .i64 t.m1,.int .i64 t.m2,.int .i64 t.m3,.int .i64 t.done,.bool t.fresh]
theorem kr {n:Int} (h:(Lit.int .i64 n).wf=true):InI n:=lI h
theorem pQ:Tryz.prog.cellsOf 3=1:=by kernel_rfl
theorem cOfB:Tryz.prog.cellsOf 4=1:=by kernel_rfl
theorem CJ:Tryz.prog.cellsOf 117=1:=by kernel_rfl
theorem CZ:Tryz.prog.cellsOf 58=1:=by kernel_rfl
theorem BA:Tryz.prog.cellsOf 108=1:=by kernel_rfl
theorem cOf4:Tryz.prog.cellsOf 118=4:=by kernel_rfl
theorem CE:Tryz.prog.cellsOf 122=5:=by kernel_rfl
theorem CR:Tryz.prog.cellsOf 120=11:=by kernel_rfl
theorem tn {H:Type} {enc:TypeId×Value→H} {w:World} {base:Nat} {sp:Nat→Bool} {held:Bool} {fuel:Nat} {c0 c1 c2 c3:Value} {x:DataW H×List MemPlace} (hf:DataW.trod enc Tryz.prog w base sp held fuel 118 [c0,c1,c2,c3]=some x):∃ z0 z1 z2 z3:Int,c0=.int .i64 z0∧c1=.int .i64 z1∧c2=.int .i64 z2∧c3=.int .i64 z3∧InI z0∧InI z1∧InI z2∧InI z3:=by
 obtain⟨y0,y1,y2,y3,m,hx,hy0,hy1,hy2,hy3⟩:=trod_array4 Tryz.underlying118 pQ hf
 obtain⟨x0,e0,_,w0⟩:=DataW.trod_int Tryz.underlying3 hy0
 obtain⟨x1,e1,_,w1⟩:=DataW.trod_int Tryz.underlying3 hy1
 obtain⟨x2,e2,_,w2⟩:=DataW.trod_int Tryz.underlying3 hy2
 obtain⟨x3,e3,_,w3⟩:=DataW.trod_int Tryz.underlying3 hy3
 simp only[List.cons.injEq,and_true] at e0 e1 e2 e3
 exact⟨x0,x1,x2,x3,e0,e1,e2,e3,kr w0,kr w1,kr w2,kr w3⟩
end Go.Proofs.YtjmepebbcnhalaaGreat
