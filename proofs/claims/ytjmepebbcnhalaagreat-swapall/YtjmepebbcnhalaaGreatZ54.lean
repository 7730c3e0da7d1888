import Derived.Test.YtjmepebbcnhalaaGreatZZaL
import Derived.Test.YtjmepebbcnhalaaGreatRows
import Derived.JoinedOf
namespace Go.Proofs.YtjmepebbcnhalaaGreat
open Tryz
set_option maxRecDepth 100000
open Go.ChangeShapes Go.WideShapes Go.ChangeAt Go.RowKit Go.Deep
variable {w:World} {base fuel:Nat} {sp:Nat→Bool} {held:Bool} {v:Value} {P:Program}
theorem I2:prog.cellsOf 85=6:=by kernel_rfl
theorem Iw:prog.cellsOf 87=6:=by kernel_rfl
theorem xe {H:Type} {enc:TypeId×Value→H} {c0 c1 c2:Value} {x:DataW H×List MemPlace} (hf:DataW.trod enc prog w base sp held fuel 25 [c0,c1,c2]=some x) (hz:∀ n∈x.1.weights prog 25,n≤reachBytes):∃ (op:Bool) (cs:List Ent) (ms:List Mk),c2=.bool op∧FiA w c0 c1 cs ms:=by
 obtain⟨xs,n,_,hx,_,hlen,hfl⟩:=Qb9 underlying25 hf
 match xs,hlen with
 | [y0,y1,y2],_ =>
  have t0:DataW.trod enc prog w base sp held n 22 (([c0,c1,c2].drop 0).take (prog.cellsOf 22))=some y0:=hfl 0 _ rfl;have t1:DataW.trod enc prog w base sp held n 23 (([c0,c1,c2].drop 1).take (prog.cellsOf 23))=some y1:=hfl 1 _ rfl;have t2:DataW.trod enc prog w base sp held n 4 (([c0,c1,c2].drop 2).take (prog.cellsOf 4))=some y2:=hfl 2 _ rfl;rw[cells22''] at t0;rw[cells23''] at t1;rw[cells4''] at t2
  obtain⟨cs,hC,hP,hCz⟩:=xl (v:=c0) t0 (fun n hn=>hz n (by
   rw[hx];simp only[DataW.weights,underlying25]
   exact DataW.weights_mem_each (j:=0) rfl rfl n hn))
  obtain⟨ms,hM,hK,hMz⟩:=wK (v:=c1) t1 (fun n hn=>hz n (by
   rw[hx];simp only[DataW.weights,underlying25]
   exact DataW.weights_mem_each (j:=1) rfl rfl n hn))
  obtain⟨op,e2,_⟩:=Qc9 underlying4 (cs:=[c2]) t2;simp only[List.cons.injEq,and_true] at e2;exact⟨op,cs,ms,e2,hC,hM,hP,hK,hCz,hMz⟩
theorem Er {H:Type} {enc:TypeId×Value→H} {r:Reach} {b0:Nat} {d:DataW H} {pl:List MemPlace} (hval:Value.okWide prog w r b0 87 v) (hd:DataW.Trod enc prog w base sp held 87 v d pl):∃ h:Hp,v=hpv h:=by
 obtain⟨cs,rfl,hsz⟩:=okWide_struct underlying87 hval;rw[Iw] at hsz;obtain⟨fuel,hf⟩:=hd;obtain⟨l⟩:=cs
 obtain⟨c0,c1,c2,c3,c4,c5,rfl⟩:∃ c0 c1 c2 c3 c4 c5,l=[c0,c1,c2,c3,c4,c5]:=by
  match l,(show l.length=6 from hsz) with
  | [c0,c1,c2,c3,c4,c5],_=>exact⟨c0,c1,c2,c3,c4,c5,rfl⟩
 obtain⟨xs,n,_,hx,_,hlen,hfl⟩:=Qb9 underlying87 hf
 match xs,hlen with
 | [y0,y1,y2,y3,y4,y5],_ =>
  have t0:DataW.trod enc prog w base sp held n 56 (([c0,c1,c2,c3,c4,c5].drop 0).take (prog.cellsOf 56))=some y0:=hfl 0 _ rfl;rw[cells56'] at t0;have t1:DataW.trod enc prog w base sp held n 3 (([c0,c1,c2,c3,c4,c5].drop 1).take (prog.cellsOf 3))=some y1:=hfl 1 _ rfl;rw[cells3'] at t1;have t2:DataW.trod enc prog w base sp held n 3 (([c0,c1,c2,c3,c4,c5].drop 2).take (prog.cellsOf 3))=some y2:=hfl 2 _ rfl;rw[cells3'] at t2;have t3:DataW.trod enc prog w base sp held n 3 (([c0,c1,c2,c3,c4,c5].drop 3).take (prog.cellsOf 3))=some y3:=hfl 3 _ rfl;rw[cells3'] at t3;have t4:DataW.trod enc prog w base sp held n 4 (([c0,c1,c2,c3,c4,c5].drop 4).take (prog.cellsOf 4))=some y4:=hfl 4 _ rfl;rw[cells4''] at t4;have t5:DataW.trod enc prog w base sp held n 4 (([c0,c1,c2,c3,c4,c5].drop 5).take (prog.cellsOf 4))=some y5:=hfl 5 _ rfl;rw[cells4''] at t5;obtain⟨z0,e0,_,w0⟩:=Qaa underlying56 (cs:=[c0]) t0;simp only[List.cons.injEq,and_true] at e0;subst e0;obtain⟨z1,e1,_,w1⟩:=Qaa underlying3 (cs:=[c1]) t1;simp only[List.cons.injEq,and_true] at e1;subst e1;obtain⟨z2,e2,_,w2⟩:=Qaa underlying3 (cs:=[c2]) t2;simp only[List.cons.injEq,and_true] at e2;subst e2;obtain⟨z3,e3,_,w3⟩:=Qaa underlying3 (cs:=[c3]) t3;simp only[List.cons.injEq,and_true] at e3;subst e3;obtain⟨z4,e4,_⟩:=Qc9 underlying4 (cs:=[c4]) t4;simp only[List.cons.injEq,and_true] at e4;subst e4;obtain⟨z5,e5,_⟩:=Qc9 underlying4 (cs:=[c5]) t5;simp only[List.cons.injEq,and_true] at e5;subst e5;exact⟨⟨z0,z1,z2,z3,z4,z5⟩,rfl⟩
theorem Fd:prog.bytesOf 120=88:=by kernel_rfl
theorem EJ:prog.bytesOf 122=32:=by kernel_rfl
theorem pj {α:Type} [Inhabited α] (R:aB α) (Q:α→Prop) (b:Nat) {T E:TypeId} (hu:prog.underlying T=some (.slice E)) (hk:prog.cellsOf E=R.k) (hb:prog.bytesOf E=b) {H:Type} {enc:TypeId×Value→H} {w:World} {base:Nat} {sp:Nat→Bool} {held:Bool} (hc:∀ {fuel:Nat} {l:List Value} {x:DataW H×List MemPlace},l.length=R.k→DataW.trod enc prog w base sp held fuel E l=some x→∃ e,l=R.enc e∧Q e) {fuel:Nat} {v:Value} {x:DataW H×List MemPlace} (h:DataW.trod enc prog w base sp held fuel T [v]=some x) (hz:∀ n∈x.1.weights prog T,n≤reachBytes):∃ l,R.At w v l∧(∀ e∈l,Q e)∧l.length*b≤reachBytes:=by
 rcases open_slice hu h with ⟨hcs,_⟩ | ⟨a,len,cp,m,f,D,Pl,hcs,_,hl,hm,hmm,hxx,hx⟩
 ·simp at hcs;subst hcs;exact⟨[],aB.At.nil R w,fun e he=>(Qbe he).elim,by simp⟩
 ·simp at hcs;subst hcs;rw[hk] at hx;have hnm:len≤m:=by rw[hmm];split <;> omega
  have hp:∀ i,i<len→∃ e:α,Q e∧∀ k u,(R.enc e)[k]?=some u→w.cell? ((a.add (i*R.k)).add k)=some u:=fun i hi=>by
   obtain⟨cs',h1,h2⟩:=hx i (by omega);obtain⟨_,hlen,hcc⟩:=Qct h1;obtain⟨e,he,hQ⟩:=hc hlen h2;subst he;refine⟨e,hQ,fun k y hk'=>?_⟩;have hk4:k<R.k:=(by have:=(Qh hk').1;rwa [R.hk] at this);rw[hcc k hk4];exact hk'
  obtain⟨F,hF⟩:=choose_lt (α:=α) hp;have hln:((List.range len).map F).length=len:=by simp
  refine⟨(List.range len).map F,⟨some a,cp,by rw[hln],by rw[hln];exact Ql hl hm,fun h0=>?_⟩,fun e he=>?_,?_⟩
  ·have h0':0<len:=(by rwa [hln] at h0);obtain⟨v0,hv0⟩:∃ v0,(R.enc (F 0))[0]?=some v0:=⟨_,Qg (by rw[R.hk];exact R.hp)⟩
   have c0:=(hF 0 h0').2 0 _ hv0;have ex:(a.add (0*R.k)).add 0=a:=(by simp[Addr.add]);rw[ex] at c0;have pl:=gO c0;refine⟨a.block,a.off,by rw[←pl],fun j e he=>?_⟩;have hj:j<len:=(by have:=(Qh he).1;rwa [hln] at this);obtain rfl:e=F j:=(by simp[hj] at he;exact he.symm);intro k u hk';have:=(hF j hj).2 k u hk';rw[mO pl,pl,dq,←Qcz] at this;exact this
  ·obtain⟨i,hi,rfl⟩:=List.mem_map.1 he;exact(hF i (Qdb.1 hi)).1
  ·have hbz:=hz ((len+(m - len))*b) (by rw[hxx];simp[DataW.weights,hu,hb]);rw[hln];exact Ql (Qce _ (by omega)) hbz
theorem wZ {H:Type} {enc:TypeId×Value→H} {l:List Value} {x:DataW H×List MemPlace} (hsz:l.length=5) (hf:DataW.trod enc prog w base sp held fuel 122 l=some x):∃ f:Fe,l=fec f∧(0≤f.tr∧f.tr<65536):=by
 obtain⟨f,rfl,_⟩:=qh hsz hf;refine⟨f,rfl,?_⟩;obtain⟨xs,n,_,hx,_,hlen,hfl⟩:=Qb9 underlying122 hf
 match xs,hlen with
 | [y0,y1,y2,y3,y4],_ =>
  have t2:DataW.trod enc prog w base sp held n 108 (((fec f).drop 2).take (prog.cellsOf 108))=some y2:=hfl 2 _ rfl;rw[FW] at t2;obtain⟨z2,e2,_,w2⟩:=Qaa underlying108 (cs:=[.int .u16 f.tr]) t2;simp only[List.cons.injEq,and_true,Value.int.injEq,true_and] at e2;rw[e2];have q:=Dj w2;exact⟨q.1,by omega⟩
theorem tj {H:Type} {enc:TypeId×Value→H} {r:Reach} {b0:Nat} {d:DataW H} {pl:List MemPlace} (hval:Value.okWide prog w r b0 85 v) (hd:DataW.Trod enc prog w base sp held 85 v d pl) (hz:∀ n∈d.weights prog 85,n≤reachBytes):∃ (vc vm vt vf:Value) (op ow:Bool) (cs:List Ent) (ms:List Mk) (ts:List Th) (fs:List Fe),v=zu vc vm op vt vf ow∧FiA w vc vm cs ms∧thR.At w vt ts∧feR.At w vf fs∧TrI fs∧(ts.length+2)*88≤140737488355328∧(fs.length+2)*32≤140737488355328:=by
 obtain⟨cs,rfl,hsz⟩:=okWide_struct underlying85 hval;rw[I2] at hsz;obtain⟨fuel,hf⟩:=hd;obtain⟨l⟩:=cs
 obtain⟨c0,c1,c2,c3,c4,c5,rfl⟩:∃ c0 c1 c2 c3 c4 c5,l=[c0,c1,c2,c3,c4,c5]:=by
  match l,(show l.length=6 from hsz) with
  | [c0,c1,c2,c3,c4,c5],_=>exact⟨c0,c1,c2,c3,c4,c5,rfl⟩
 obtain⟨xs,n,_,hx,_,hlen,hfl⟩:=Qb9 underlying85 hf
 match xs,hlen with
 | [y0,y1,y2,y3],_ =>
  have t0:DataW.trod enc prog w base sp held n 25 (([c0,c1,c2,c3,c4,c5].drop 0).take (prog.cellsOf 25))=some y0:=hfl 0 _ rfl;have t1:DataW.trod enc prog w base sp held n 26 (([c0,c1,c2,c3,c4,c5].drop 3).take (prog.cellsOf 26))=some y1:=hfl 1 _ rfl;have t2:DataW.trod enc prog w base sp held n 27 (([c0,c1,c2,c3,c4,c5].drop 4).take (prog.cellsOf 27))=some y2:=hfl 2 _ rfl;have t3:DataW.trod enc prog w base sp held n 4 (([c0,c1,c2,c3,c4,c5].drop 5).take (prog.cellsOf 4))=some y3:=hfl 3 _ rfl;rw[uD] at t0;rw[Gu] at t1;rw[GE] at t2;rw[cells4''] at t3
  haveI:Inhabited Th:=⟨⟨0,0,0,0,0,0,0,0,0,0,false⟩⟩
  haveI:Inhabited Fe:=⟨Fe.none⟩
  obtain⟨op,ccs,ms,e2,hF⟩:=xe (c0:=c0) (c1:=c1) (c2:=c2) t0 (fun n hn=>hz n (by
   rw[(Prod.mk.inj hx).1];simp only[DataW.weights,underlying85]
   exact DataW.weights_mem_each (j:=0) rfl rfl n hn))
  obtain⟨ts,hT,_,b1⟩:=pj thR (fun _=>True) 88 underlying26 I9 Fd (fun a b=>by obtain⟨t,e⟩:=uj a b;exact⟨t,e,trivial⟩) (v:=c3) t1 (fun n hn=>hz n (by
   rw[(Prod.mk.inj hx).1];simp only[DataW.weights,underlying85]
   exact DataW.weights_mem_each (j:=1) rfl rfl n hn))
  obtain⟨fs,hE,qE,b2⟩:=pj feR (fun f=>0≤f.tr∧f.tr<65536) 32 underlying27 Iq EJ (fun a b=>wZ a b) (v:=c4) t2 (fun n hn=>hz n (by
   rw[(Prod.mk.inj hx).1];simp only[DataW.weights,underlying85]
   exact DataW.weights_mem_each (j:=2) rfl rfl n hn))
  obtain⟨ow,e5,_⟩:=Qc9 underlying4 (cs:=[c5]) t3;simp only[List.cons.injEq,and_true] at e5;subst e5;subst e2;unfold reachBytes at b1 b2;exact⟨c0,c1,c3,c4,op,ow,ccs,ms,ts,fs,rfl,hF,hT,hE,qE,by omega,by omega⟩
theorem FP:prog.bytesOf 64=56:=by kernel_rfl
theorem Bk {H:Type} {enc:TypeId×Value→H} {x:DataW H×List MemPlace} (h:DataW.trod enc prog w base sp held fuel 30 [v]=some x) (hz:∀ n∈x.1.weights prog 30,n≤reachBytes):∃ S,sdR.At w v S∧(S.length+2)*56≤140737488355328:=by
 haveI:Inhabited Sd:=⟨Sd.none⟩
 obtain⟨S,h1,_,h3⟩:=pj sdR (fun _=>True) 56 underlying30 FX FP (fun a b=>by obtain⟨s,e⟩:=jv a b;exact⟨s,e,trivial⟩) h hz;unfold reachBytes at h3;exact⟨S,h1,by omega⟩
theorem pW (os:Os) (started:os.Started) (H:Type) (enc:TypeId×Value→H) :
  ReturnsInHanded {} checked os 5 .any (Rows.swapAllSpec.pre6 enc prog Tryz.f5 Rows.swapAllRow.domain false) (Rows.swapAllSpec.post enc prog Tryz.f5 false true false false):=by
 refine returnsInHanded_of_change_sized (C:=checked) Tryz.own started (by kernel_rfl) func5
  (ChangeSpec.witness6 (enc:=enc) (C:=checked) false ⟨#[],#[.agg #[.slice none 0 0,.slice none 0 0,.bool false,.slice none 0 0,.slice none 0 0,.bool false],.agg #[.int .u8 0,.int .i64 0,.int .i64 0,.int .i64 0,.bool false,.bool false],.slice none 0 0,.agg #[.int .i64 0,.int .i64 0,.int .u8 0,.int .u8 0,.int .u8 0,.int .i64 0,.int .u8 0,.int .u8 0,.int .u8 0,.string ⟨#[]⟩]],[]⟩ 8 (by kernel_rfl) (by kernel_rfl) (by kernel_rfl) (by kernel_rfl)) ?_
 intro W base args ds gs before hval0 hW hcnd hsz _;have hval:∀ (j:Nat) t v,Tryz.f5.params[j]?=some t→args[j]?=some v→Value.okWide prog W .any base t v:=hval0;have hW':=hW;obtain⟨p,q,hA0,hV,rfl,hfz,hnd⟩:=hW;have hA:DataW.TrodAll enc prog W 0 (fun _=>true) true Tryz.f5.params.toList args.toList ds p:=hA0;have hS:(DataW.weightsEach prog (Tryz.f5.params.toList++Rows.swapAllSpec.plain.varTypes prog) (ds++gs)).all (·≤reachBytes)=true:=hsz;rw[params5] at hA hval hS;obtain⟨v0,vs0,d0,ds0,p0,q0,hargs,rfl,rfl,h0,r0⟩:=trodAll_cons hA;obtain⟨v1,vs1,d1,ds1,p1,q1,rfl,rfl,rfl,h1,r1⟩:=trodAll_cons r0;obtain⟨v2,vs2,d2,ds2,p2,q2,rfl,rfl,rfl,h2,r2⟩:=trodAll_cons r1;obtain⟨v3,vs3,d3,ds3,p3,q3,rfl,rfl,rfl,h3,r3⟩:=trodAll_cons r2;obtain⟨rfl,rfl,rfl⟩:=trodAll_nil r3;obtain rfl:args=#[v0,v1,v2,v3]:=by cases args;simp_all
 obtain⟨rfl,rfl⟩:=trodVars_none hV;have k0:=h0;have lt0:∀ x∈p0,x.block<W.heap.size:=by obtain⟨m,hm⟩:=k0;exact Qdg m _ _ _ hm
 obtain⟨vc,vm,vt,vf,op,ow,cs,ms,ts,fs,rfl,F0,T0,E0,R0,B0,D0⟩:=tj (hval 0 85 v0 rfl rfl) h0 (fun n hn=>by simpa using Qch.1 hS n (DataW.weights_mem_each (j:=0) rfl rfl n hn));have k1:=h1;have lt1:∀ x∈p1,x.block<W.heap.size:=by obtain⟨m,hm⟩:=k1;exact Qdg m _ _ _ hm
 obtain⟨hp1,rfl⟩:=Er (hval 1 87 v1 rfl rfl) h1;have k2:=h2;have lt2:∀ x∈p2,x.block<W.heap.size:=by obtain⟨m,hm⟩:=k2;exact Qdg m _ _ _ hm
 obtain⟨sa2,sl2,sc2,rfl⟩:=okWide_slice underlying30 (hval 2 30 v2 rfl rfl);obtain⟨S2,A2,B2⟩:∃ S,sdR.At W (.slice sa2 sl2 sc2) S∧(S.length+2)*56≤140737488355328:=by obtain⟨fuel,hf⟩:=h2;exact Bk hf (fun n hn=>by simpa using Qch.1 hS n (DataW.weights_mem_each (j:=2) rfl rfl n hn))
 have k3:=h3;have lt3:∀ x∈p3,x.block<W.heap.size:=by obtain⟨m,hm⟩:=k3;exact Qdg m _ _ _ hm
 obtain⟨s3,rfl⟩:=qs (hval 3 64 v3 rfl rfl) h3;clear hA0 hval0;refine(tC vc vm vt vf (.slice sa2 sl2 sc2) op ow cs ms ts fs hp1 S2 s3 W F0 T0 E0 A2 R0 B0 D0 B2).mono fun e W' ⟨he,hg⟩=>?_;subst he;have bel:=jp hg;exact⟨_,rfl,_,_,_,[],_,[],hW',trodAll_mk1 (shut_bool underlying4 _),(trodAll_cons_mk (Below.trod laidOut (by kernel_rfl) (of_decide_eq_true (by kernel_rfl)) k0 bel lt0) (trodAll_cons_mk (Below.trod laidOut (by kernel_rfl) (of_decide_eq_true (by kernel_rfl)) k1 bel lt1) (trodAll_cons_mk (Below.trod laidOut (by kernel_rfl) (of_decide_eq_true (by kernel_rfl)) k2 bel lt2) (trodAll_cons_mk (Below.trod laidOut (by kernel_rfl) (of_decide_eq_true (by kernel_rfl)) k3 bel lt3) trodAll_mk0)))),rfl,bel.frame _,fun h=>by cases h⟩
end Go.Proofs.YtjmepebbcnhalaaGreat
namespace Go.Proofs.YtjmepebbcnhalaaGreat
open Tryz
open Go.WideShapes
variable {w:World} {base fuel:Nat} {sp:Nat→Bool} {held:Bool} {v:Value} {P:Program}
theorem sa {f:FuncId} {fn:Func} {s:ChangeSpec} {c:OpenClaim} (h0:(c.wf (OpenSpec.ofChange s))=true) (h1:(laidOutB P)=true) (h2:(mapsRowed P)=true) (h3:(fn.params.all (P.readableRec ·))=true) (h4:(namedTie P c.named s.vars)=true) (h5:((c.stops == []))=true) (h6:((P.stops == []))=true) (h7:((c.knobs == []))=true) (h8:((P.stopKnobs == []))=true) (h9:((c.inPlace == P.inPlace f))=true) (h10:((c.unfollowed == P.unfollowed f))=true) (h11:((c.recurses == P.recurses f))=true) (h12:((c.named == P.varsNamed f))=true) (h13:((c.maps == (fn.params.toList++s.plain.varTypes P).any (P.mapsRec ·)))=true) (h14:((c.ifaces == (fn.params.toList++s.plain.varTypes P).any (P.ifacesRec ·)))=true) (h15:((c.mapsOut == P.mapsAmong fn.resultTypes.toList))=true) (h16:((c.loops == (fn.params.toList++s.plain.varTypes P).any (P.loopsFrom ·)))=true) (h17:((c.wideKeys == (fn.params.toList++s.plain.varTypes P++fn.resultTypes.toList).any (P.wideKeysFrom ·)))=true) (h18:(s.vars.all (P.varReadable ·))=true) (h19:(fn.resultTypes.all (fun t=>P.readableRec t && decide (t<P.types.size)))=true) (h20:((c.ifacesOut == fn.resultTypes.toList.any (P.ifacesRec ·)))=true) (h21:((c.loopsOut == fn.resultTypes.toList.any (P.loopsFrom ·)))=true) (h22:((c.plainKeys == P.plainKeys))=true) (h23:(c.shortTexts.isNone)=true) (h24:(P.stopsHeard)=true) (h25:(P.mayEnter)=true) (h26:((c.lifted == P.liftsFinal))=true) (h27:((P.make == some c.make))=true) (h28:((c.kinds == (if c.domain.isEmpty then [] else fn.params.toList.map fun t=>match P.underlying t with | some (.int k)=>some k | _=>none)))=true) (h29:((c.pinned == c.pinnedBy))=true) (h30:((c.veiled == (fn.params.toList++s.plain.varTypes P++fn.resultTypes.toList).any (P.veiledRec ·)))=true) (h31:(c.veiledFits P fn.params.toList (fn.params.toList++s.plain.varTypes P++fn.resultTypes.toList))=true):joinedFacts P f fn s c=true:=by
 unfold joinedFacts;simp only[Bool.and_eq_true];exact⟨⟨⟨⟨⟨⟨⟨⟨⟨⟨⟨⟨⟨⟨⟨⟨⟨⟨⟨⟨⟨⟨⟨⟨⟨⟨⟨⟨⟨⟨⟨h0,h1⟩,h2⟩,h3⟩,h4⟩,h5⟩,h6⟩,h7⟩,h8⟩,h9⟩,h10⟩,h11⟩,h12⟩,h13⟩,h14⟩,h15⟩,h16⟩,h17⟩,h18⟩,h19⟩,h20⟩,h21⟩,h22⟩,h23⟩,h24⟩,h25⟩,h26⟩,h27⟩,h28⟩,h29⟩,h30⟩,h31⟩
theorem yh:(Rows.swapAllRow.wf (OpenSpec.ofChange Rows.swapAllSpec))=true:=by kernel_rfl
theorem vS:(laidOutB prog)=true:=by kernel_rfl
theorem xX:(mapsRowed prog)=true:=by kernel_rfl
theorem xV:(Tryz.f5.params.all (prog.readableRec ·))=true:=by kernel_rfl
theorem wJ:(namedTie prog Rows.swapAllRow.named Rows.swapAllSpec.vars)=true:=by kernel_rfl
theorem vM:((Rows.swapAllRow.stops == []))=true:=by kernel_rfl
theorem xh:((prog.stops == []))=true:=by kernel_rfl
theorem wa:((Rows.swapAllRow.knobs == []))=true:=by kernel_rfl
theorem wO:((prog.stopKnobs == []))=true:=by kernel_rfl
theorem xy:((Rows.swapAllRow.inPlace == prog.inPlace 5))=true:=by kernel_rfl
theorem tt:((Rows.swapAllRow.unfollowed == prog.unfollowed 5))=true:=by kernel_rfl
theorem ut:((Rows.swapAllRow.recurses == prog.recurses 5))=true:=by kernel_rfl
theorem tl:((Rows.swapAllRow.named == prog.varsNamed 5))=true:=by kernel_rfl
theorem sR:((Rows.swapAllRow.maps == (Tryz.f5.params.toList++Rows.swapAllSpec.plain.varTypes prog).any (prog.mapsRec ·)))=true:=by kernel_rfl
theorem vj:((Rows.swapAllRow.ifaces == (Tryz.f5.params.toList++Rows.swapAllSpec.plain.varTypes prog).any (prog.ifacesRec ·)))=true:=by kernel_rfl
theorem uw:((Rows.swapAllRow.mapsOut == prog.mapsAmong Tryz.f5.resultTypes.toList))=true:=by kernel_rfl
theorem ue:((Rows.swapAllRow.loops == (Tryz.f5.params.toList++Rows.swapAllSpec.plain.varTypes prog).any (prog.loopsFrom ·)))=true:=by kernel_rfl
theorem tK:((Rows.swapAllRow.wideKeys == (Tryz.f5.params.toList++Rows.swapAllSpec.plain.varTypes prog++Tryz.f5.resultTypes.toList).any (prog.wideKeysFrom ·)))=true:=by kernel_rfl
theorem sQ:(Rows.swapAllSpec.vars.all (prog.varReadable ·))=true:=by kernel_rfl
theorem tV:(Tryz.f5.resultTypes.all (fun t=>prog.readableRec t && decide (t<prog.types.size)))=true:=by kernel_rfl
theorem tJ:((Rows.swapAllRow.ifacesOut == Tryz.f5.resultTypes.toList.any (prog.ifacesRec ·)))=true:=by kernel_rfl
theorem tR:((Rows.swapAllRow.loopsOut == Tryz.f5.resultTypes.toList.any (prog.loopsFrom ·)))=true:=by kernel_rfl
theorem sV:((Rows.swapAllRow.plainKeys == prog.plainKeys))=true:=by kernel_rfl
theorem tg:(Rows.swapAllRow.shortTexts.isNone)=true:=by kernel_rfl
theorem uq:(prog.stopsHeard)=true:=by kernel_rfl
theorem uR:(prog.mayEnter)=true:=by kernel_rfl
theorem tM:((Rows.swapAllRow.lifted == prog.liftsFinal))=true:=by kernel_rfl
theorem vq:((prog.make == some Rows.swapAllRow.make))=true:=by kernel_rfl
theorem tA:((Rows.swapAllRow.kinds == (if Rows.swapAllRow.domain.isEmpty then [] else Tryz.f5.params.toList.map fun t=>match prog.underlying t with | some (.int k)=>some k | _=>none)))=true:=by kernel_rfl
theorem vh:((Rows.swapAllRow.pinned == Rows.swapAllRow.pinnedBy))=true:=by kernel_rfl
theorem uV:((Rows.swapAllRow.veiled == (Tryz.f5.params.toList++Rows.swapAllSpec.plain.varTypes prog++Tryz.f5.resultTypes.toList).any (prog.veiledRec ·)))=true:=by kernel_rfl
theorem uE:(Rows.swapAllRow.veiledFits prog Tryz.f5.params.toList (Tryz.f5.params.toList++Rows.swapAllSpec.plain.varTypes prog++Tryz.f5.resultTypes.toList))=true:=by kernel_rfl
theorem og:joinedFacts prog 5 Tryz.f5 Rows.swapAllSpec Rows.swapAllRow=true:=sa yh vS xX xV wJ vM xh wa wO xy tt ut tl sR vj uw ue tK sQ tV tJ tR sV tg uq uR tM vq tA vh uV uE
