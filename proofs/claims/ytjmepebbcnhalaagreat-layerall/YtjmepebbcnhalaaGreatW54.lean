import Derived.Test.YtjmepebbcnhalaaGreatW39
import Derived.Test.YtjmepebbcnhalaaGreatW14
import Derived.Test.YtjmepebbcnhalaaGreatW50
import Derived.Test.YtjmepebbcnhalaaGreatW52
import Derived.Test.YtjmepebbcnhalaaGreatWLaL
import Derived.Test.YtjmepebbcnhalaaGreatRows
import Derived.JoinedOf
namespace Go.Proofs.YtjmepebbcnhalaaGreat
open Go.ChangeShapes Go.WideShapes Go.ChangeAt Go.RowKit Go.Deep

theorem Az:Tryz.prog.bytesOf 122=32:=by kernel_rfl
theorem rg {α:Type} [Inhabited α] (R:aB α) (Q:α→Prop) (b:Nat) {T E:TypeId} (hu:Tryz.prog.underlying T=some (.slice E)) (hk:Tryz.prog.cellsOf E=R.k) (hb:Tryz.prog.bytesOf E=b) {H:Type} {enc:TypeId×Value→H} {w:World} {base:Nat} {sp:Nat→Bool} {held:Bool} (hc:∀ {fuel:Nat} {l:List Value} {x:DataW H×List MemPlace},l.length=R.k→DataW.trod enc Tryz.prog w base sp held fuel E l=some x→∃ e,l=R.enc e∧Q e) {fuel:Nat} {v:Value} {x:DataW H×List MemPlace} (h:DataW.trod enc Tryz.prog w base sp held fuel T [v]=some x) (hz:∀ n∈x.1.weights Tryz.prog T,n≤reachBytes):∃ l,R.At w v l∧(∀ e∈l,Q e)∧l.length*b≤reachBytes:=by
 rcases open_slice hu h with ⟨hcs,_⟩ | ⟨a,len,cp,m,f,D,Pl,hcs,_,hl,hm,hmm,hxx,hx⟩
 ·simp at hcs
  subst hcs
  exact⟨[],aB.At.nil R w,fun e he=>(List.not_mem_nil he).elim,by simp⟩
 ·simp at hcs
  subst hcs
  rw[hk] at hx
  have hnm:len≤m:=by rw[hmm];split <;> omega
  have hp:∀ i,i<len→∃ e:α,Q e∧∀ k u,(R.enc e)[k]?=some u→w.cell? ((a.add (i*R.k)).add k)=some u:=fun i hi=>by
   obtain⟨cs',h1,h2⟩:=hx i (by omega)
   obtain⟨_,hlen,hcc⟩:=World.cells?_some h1
   obtain⟨e,he,hQ⟩:=hc hlen h2
   subst he
   refine⟨e,hQ,fun k y hk'=>?_⟩
   have hk4:k<R.k:=by have:=(List.getElem?_eq_some_iff.1 hk').1;rwa [R.hk] at this
   rw[hcc k hk4]
   exact hk'
  obtain⟨F,hF⟩:=choose_lt (α:=α) hp
  have hln:((List.range len).map F).length=len:=by simp
  refine⟨(List.range len).map F,⟨some a,cp,by rw[hln],by rw[hln];exact Nat.le_trans hl hm,fun h0=>?_⟩,fun e he=>?_,?_⟩
  ·have h0':0<len:=by rwa [hln] at h0
   obtain⟨v0,hv0⟩:∃ v0,(R.enc (F 0))[0]?=some v0:=⟨_,List.getElem?_eq_getElem (by rw[R.hk];exact R.hp)⟩
   have c0:=(hF 0 h0').2 0 _ hv0
   have ex:(a.add (0*R.k)).add 0=a:=by simp[Addr.add]
   rw[ex] at c0
   have pl:=fg c0
   refine⟨a.block,a.off,by rw[←pl],fun j e he=>?_⟩
   have hj:j<len:=by have:=(List.getElem?_eq_some_iff.1 he).1;rwa [hln] at this
   obtain rfl:e=F j:=by simp[hj] at he;exact he.symm
   intro k u hk'
   have:=(hF j hj).2 k u hk'
   rw[ka pl,pl,cG,←Nat.add_assoc] at this
   exact this
  ·obtain⟨i,hi,rfl⟩:=List.mem_map.1 he
   exact(hF i (List.mem_range.1 hi)).1
  ·have hbz:=hz ((len+(m - len))*b) (by rw[hxx];simp[DataW.weights,hu,hb])
   rw[hln]
   exact Nat.le_trans (Nat.mul_le_mul_right _ (by omega)) hbz
theorem tT {H:Type} {enc:TypeId×Value→H} {w:World} {base:Nat} {sp:Nat→Bool} {held:Bool} {fuel:Nat} {l:List Value} {x:DataW H×List MemPlace} (hsz:l.length=5) (hf:DataW.trod enc Tryz.prog w base sp held fuel 122 l=some x):∃ f:Fe,l=fec f∧(0≤f.tr∧f.tr<65536):=by
 obtain⟨f,rfl,_⟩:=nM hsz hf
 refine⟨f,rfl,?_⟩
 obtain⟨xs,n,_,hx,_,hlen,hfl⟩:=DataW.trod_struct Tryz.underlying122 hf
 match xs,hlen with
 | [y0,y1,y2,y3,y4],_ =>
  have t2:DataW.trod enc Tryz.prog w base sp held n 108 (((fec f).drop 2).take (Tryz.prog.cellsOf 108))=some y2:=hfl 2 _ rfl
  rw[BA] at t2
  obtain⟨z2,e2,_,w2⟩:=DataW.trod_int Tryz.underlying108 (cs:=[.int .u16 f.tr]) t2
  simp only[List.cons.injEq,and_true,Value.int.injEq,true_and] at e2
  rw[e2]
  have q:=Af w2
  exact⟨q.1,by omega⟩
theorem Bh:Tryz.prog.bytesOf 64=56:=by kernel_rfl
theorem Ah {H:Type} {enc:TypeId×Value→H} {w:World} {base:Nat} {sp:Nat→Bool} {held:Bool} {fuel:Nat} {v:Value} {x:DataW H×List MemPlace} (h:DataW.trod enc Tryz.prog w base sp held fuel 30 [v]=some x) (hz:∀ n∈x.1.weights Tryz.prog 30,n≤reachBytes):∃ S,sdR.At w v S∧(S.length+2)*56≤140737488355328:=by
 haveI:Inhabited Sd:=⟨Sd.none⟩
 obtain⟨S,h1,_,h3⟩:=rg sdR (fun _=>True) 56 Tryz.underlying30 CV Bh (fun a b=>by obtain⟨s,e⟩:=lZ a b;exact⟨s,e,trivial⟩) h hz
 unfold reachBytes at h3
 exact⟨S,h1,by omega⟩
set_option maxRecDepth 100000
theorem qO {H:Type} {enc:TypeId×Value→H} {w:World} {base:Nat} {sp:Nat→Bool} {held:Bool} {r:Reach} {b0:Nat} {v:Value} {d:DataW H} {pl:List MemPlace} (hval:Value.okWide Tryz.prog w r b0 29 v) (hd:DataW.Trod enc Tryz.prog w base sp held 29 v d pl) (hz:∀ n∈d.weights Tryz.prog 29,n≤reachBytes):∃ vt vf ts fs,v=.agg #[vt,vf]∧thR.At w vt ts∧feR.At w vf fs∧TrI fs:=by
 obtain⟨cs,rfl,hsz⟩:=okWide_struct Tryz.underlying29 hval
 rw[Cb] at hsz
 obtain⟨fuel,hf⟩:=hd
 obtain⟨l⟩:=cs
 obtain⟨c0,c1,rfl⟩:∃ c0 c1,l=[c0,c1]:=by
  match l,(show l.length=2 from hsz) with
  | [c0,c1],_=>exact⟨c0,c1,rfl⟩
 obtain⟨xs,n,_,hx,_,hlen,hfl⟩:=DataW.trod_struct Tryz.underlying29 hf
 match xs,hlen with
 | [y0,y1],_ =>
  have t0:DataW.trod enc Tryz.prog w base sp held n 26 (([c0,c1].drop 0).take (Tryz.prog.cellsOf 26))=some y0:=hfl 0 _ rfl
  have t1:DataW.trod enc Tryz.prog w base sp held n 27 (([c0,c1].drop 1).take (Tryz.prog.cellsOf 27))=some y1:=hfl 1 _ rfl
  rw[Cq] at t0
  rw[BL] at t1
  haveI:Inhabited Th:=⟨⟨0,0,0,0,0,0,0,0,0,0,false⟩⟩
  haveI:Inhabited Fe:=⟨Fe.none⟩
  obtain⟨ts,hT⟩:=wT thR Tryz.underlying26 CR (fun a b=>rO a b) (v:=c0) t0
  obtain⟨fs,hF,qF,_⟩:=rg feR (fun f=>0≤f.tr∧f.tr<65536) 32 Tryz.underlying27 CE Az (fun a b=>tT a b) (v:=c1) t1 (fun n hn=>hz n (by
   rw[(Prod.mk.inj hx).1]
   simp only[DataW.weights,Tryz.underlying29]
   exact DataW.weights_mem_each (j:=1) rfl rfl n hn))
  exact⟨c0,c1,ts,fs,rfl,hT,hF,qF⟩
theorem lk (os:Os) (started:os.Started) (H:Type) (enc:TypeId×Value→H) :
  ReturnsInHanded {} Tryz.checked os 3 .any (Rows.layerAllSpec.pre6 enc Tryz.prog Tryz.f3 Rows.layerAllRow.domain false) (Rows.layerAllSpec.post enc Tryz.prog Tryz.f3 false true false false):=by
 refine returnsInHanded_of_change_sized (C:=Tryz.checked) Tryz.own started (by kernel_rfl) Tryz.func3
  (ChangeSpec.witness6 (enc:=enc) (C:=Tryz.checked) false ⟨#[],#[.agg #[.slice none 0 0,.slice none 0 0,.bool false],.agg #[.slice none 0 0,.slice none 0 0],.slice none 0 0,.int .i64 0],[]⟩ 8 (by kernel_rfl) (by kernel_rfl) (by kernel_rfl) (by kernel_rfl)) ?_
 intro W base args ds gs before hval0 hW hcnd hsz _
 have hval:∀ (j:Nat) t v,Tryz.f3.params[j]?=some t→args[j]?=some v→Value.okWide Tryz.prog W .any base t v:=hval0
 have hW':=hW
 obtain⟨p,q,hA0,hV,rfl,hfz,hnd⟩:=hW
 have hA:DataW.TrodAll enc Tryz.prog W 0 (fun _=>true) true Tryz.f3.params.toList args.toList ds p:=hA0
 have hS:(DataW.weightsEach Tryz.prog (Tryz.f3.params.toList++Rows.layerAllSpec.plain.varTypes Tryz.prog) (ds++gs)).all (·≤reachBytes)=true:=hsz
 rw[Tryz.params3] at hA hval hS
 obtain⟨v0,vs0,d0,ds0,p0,q0,hargs,rfl,rfl,h0,r0⟩:=trodAll_cons hA
 obtain⟨v1,vs1,d1,ds1,p1,q1,rfl,rfl,rfl,h1,r1⟩:=trodAll_cons r0
 obtain⟨v2,vs2,d2,ds2,p2,q2,rfl,rfl,rfl,h2,r2⟩:=trodAll_cons r1
 obtain⟨v3,vs3,d3,ds3,p3,q3,rfl,rfl,rfl,h3,r3⟩:=trodAll_cons r2
 obtain⟨rfl,rfl,rfl⟩:=trodAll_nil r3
 obtain rfl:args=#[v0,v1,v2,v3]:=by cases args;simp_all
 obtain⟨rfl,rfl⟩:=trodVars_none hV
 have k0:=h0
 have lt0:∀ x∈p0,x.block<W.heap.size:=by obtain⟨m,hm⟩:=k0;exact DataW.trod_lt m _ _ _ hm
 obtain⟨vc,vm,op,cs,ms,rfl,F0⟩:=xX (hval 0 25 v0 rfl rfl) h0 (fun n hn=>by simpa using List.all_eq_true.1 hS n (DataW.weights_mem_each (j:=0) rfl rfl n hn))
 have k1:=h1
 have lt1:∀ x∈p1,x.block<W.heap.size:=by obtain⟨m,hm⟩:=k1;exact DataW.trod_lt m _ _ _ hm
 obtain⟨vt,vf,ts,fs,rfl,T1,E1,R1⟩:=qO (hval 1 29 v1 rfl rfl) h1 (fun n hn=>by simpa using List.all_eq_true.1 hS n (DataW.weights_mem_each (j:=1) rfl rfl n hn))
 have k2:=h2
 have lt2:∀ x∈p2,x.block<W.heap.size:=by obtain⟨m,hm⟩:=k2;exact DataW.trod_lt m _ _ _ hm
 obtain⟨sa2,sl2,sc2,rfl⟩:=okWide_slice Tryz.underlying30 (hval 2 30 v2 rfl rfl)
 obtain⟨S2,A2,B2⟩:∃ S,sdR.At W (.slice sa2 sl2 sc2) S∧(S.length+2)*56≤140737488355328:=by obtain⟨fuel,hf⟩:=h2;exact Ah hf (fun n hn=>by simpa using List.all_eq_true.1 hS n (DataW.weights_mem_each (j:=2) rfl rfl n hn))
 obtain⟨a3,rfl,rfl,rfl,w3⟩:=open_int Tryz.underlying3 (hval 3 3 v3 rfl rfl) h3
 clear hA0 hval0
 refine(qb vc vm vt vf _ op cs ms ts fs S2 a3 W F0 T1 E1 R1 A2).mono fun e W' ⟨he,hg⟩=>?_
 subst he
 have bel:=iy hg
 exact⟨_,rfl,_,_,_,[],_,[],hW',trodAll_mk1 (shut_bool Tryz.underlying4 _),(trodAll_cons_mk (Below.trod Tryz.laidOut (by kernel_rfl) (of_decide_eq_true (by kernel_rfl)) k0 bel lt0) (trodAll_cons_mk (Below.trod Tryz.laidOut (by kernel_rfl) (of_decide_eq_true (by kernel_rfl)) k1 bel lt1) (trodAll_cons_mk (Below.trod Tryz.laidOut (by kernel_rfl) (of_decide_eq_true (by kernel_rfl)) k2 bel lt2) (trodAll_cons_mk (shut_int Tryz.underlying3 w3) trodAll_mk0)))),rfl,bel.frame _,fun h=>by cases h⟩
end Go.Proofs.YtjmepebbcnhalaaGreat
namespace Go.Proofs.YtjmepebbcnhalaaGreat
open Go.WideShapes
theorem oQ {P:Program} {f:FuncId} {fn:Func} {s:ChangeSpec} {c:OpenClaim} (h0:(c.wf (OpenSpec.ofChange s))=true) (h1:(laidOutB P)=true) (h2:(mapsRowed P)=true) (h3:(fn.params.all (P.readableRec ·))=true) (h4:(namedTie P c.named s.vars)=true) (h5:((c.stops == []))=true) (h6:((P.stops == []))=true) (h7:((c.knobs == []))=true) (h8:((P.stopKnobs == []))=true) (h9:((c.inPlace == P.inPlace f))=true) (h10:((c.unfollowed == P.unfollowed f))=true) (h11:((c.recurses == P.recurses f))=true) (h12:((c.named == P.varsNamed f))=true) (h13:((c.maps == (fn.params.toList++s.plain.varTypes P).any (P.mapsRec ·)))=true) (h14:((c.ifaces == (fn.params.toList++s.plain.varTypes P).any (P.ifacesRec ·)))=true) (h15:((c.mapsOut == P.mapsAmong fn.resultTypes.toList))=true) (h16:((c.loops == (fn.params.toList++s.plain.varTypes P).any (P.loopsFrom ·)))=true) (h17:((c.wideKeys == (fn.params.toList++s.plain.varTypes P++fn.resultTypes.toList).any (P.wideKeysFrom ·)))=true) (h18:(s.vars.all (P.varReadable ·))=true) (h19:(fn.resultTypes.all (fun t=>P.readableRec t && decide (t<P.types.size)))=true) (h20:((c.ifacesOut == fn.resultTypes.toList.any (P.ifacesRec ·)))=true) (h21:((c.loopsOut == fn.resultTypes.toList.any (P.loopsFrom ·)))=true) (h22:((c.plainKeys == P.plainKeys))=true) (h23:(c.shortTexts.isNone)=true) (h24:(P.stopsHeard)=true) (h25:(P.mayEnter)=true) (h26:((c.lifted == P.liftsFinal))=true) (h27:((P.make == some c.make))=true) (h28:((c.kinds == (if c.domain.isEmpty then [] else fn.params.toList.map fun t=>match P.underlying t with | some (.int k)=>some k | _=>none)))=true) (h29:((c.pinned == c.pinnedBy))=true) (h30:((c.veiled == (fn.params.toList++s.plain.varTypes P++fn.resultTypes.toList).any (P.veiledRec ·)))=true) (h31:(c.veiledFits P fn.params.toList (fn.params.toList++s.plain.varTypes P++fn.resultTypes.toList))=true):joinedFacts P f fn s c=true:=by
 unfold joinedFacts
 simp only[Bool.and_eq_true]
 exact⟨⟨⟨⟨⟨⟨⟨⟨⟨⟨⟨⟨⟨⟨⟨⟨⟨⟨⟨⟨⟨⟨⟨⟨⟨⟨⟨⟨⟨⟨⟨h0,h1⟩,h2⟩,h3⟩,h4⟩,h5⟩,h6⟩,h7⟩,h8⟩,h9⟩,h10⟩,h11⟩,h12⟩,h13⟩,h14⟩,h15⟩,h16⟩,h17⟩,h18⟩,h19⟩,h20⟩,h21⟩,h22⟩,h23⟩,h24⟩,h25⟩,h26⟩,h27⟩,h28⟩,h29⟩,h30⟩,h31⟩
theorem sa:(Rows.layerAllRow.wf (OpenSpec.ofChange Rows.layerAllSpec))=true:=by kernel_rfl
theorem rH:(laidOutB Tryz.prog)=true:=by kernel_rfl
theorem qZ:(mapsRowed Tryz.prog)=true:=by kernel_rfl
theorem qP:(Tryz.f3.params.all (Tryz.prog.readableRec ·))=true:=by kernel_rfl
theorem rm:(namedTie Tryz.prog Rows.layerAllRow.named Rows.layerAllSpec.vars)=true:=by kernel_rfl
theorem rV:((Rows.layerAllRow.stops == []))=true:=by kernel_rfl
theorem rB:((Tryz.prog.stops == []))=true:=by kernel_rfl
theorem qT:((Rows.layerAllRow.knobs == []))=true:=by kernel_rfl
theorem qS:((Tryz.prog.stopKnobs == []))=true:=by kernel_rfl
theorem sl:((Rows.layerAllRow.inPlace == Tryz.prog.inPlace 3))=true:=by kernel_rfl
theorem pX:((Rows.layerAllRow.unfollowed == Tryz.prog.unfollowed 3))=true:=by kernel_rfl
theorem qy:((Rows.layerAllRow.recurses == Tryz.prog.recurses 3))=true:=by kernel_rfl
theorem pC:((Rows.layerAllRow.named == Tryz.prog.varsNamed 3))=true:=by kernel_rfl
theorem oY:((Rows.layerAllRow.maps == (Tryz.f3.params.toList++Rows.layerAllSpec.plain.varTypes Tryz.prog).any (Tryz.prog.mapsRec ·)))=true:=by kernel_rfl
theorem oU:((Rows.layerAllRow.ifaces == (Tryz.f3.params.toList++Rows.layerAllSpec.plain.varTypes Tryz.prog).any (Tryz.prog.ifacesRec ·)))=true:=by kernel_rfl
theorem pI:((Rows.layerAllRow.mapsOut == Tryz.prog.mapsAmong Tryz.f3.resultTypes.toList))=true:=by kernel_rfl
theorem pB:((Rows.layerAllRow.loops == (Tryz.f3.params.toList++Rows.layerAllSpec.plain.varTypes Tryz.prog).any (Tryz.prog.loopsFrom ·)))=true:=by kernel_rfl
theorem qk:((Rows.layerAllRow.wideKeys == (Tryz.f3.params.toList++Rows.layerAllSpec.plain.varTypes Tryz.prog++Tryz.f3.resultTypes.toList).any (Tryz.prog.wideKeysFrom ·)))=true:=by kernel_rfl
theorem qv:(Rows.layerAllSpec.vars.all (Tryz.prog.varReadable ·))=true:=by kernel_rfl
theorem pT:(Tryz.f3.resultTypes.all (fun t=>Tryz.prog.readableRec t && decide (t<Tryz.prog.types.size)))=true:=by kernel_rfl
theorem pz:((Rows.layerAllRow.ifacesOut == Tryz.f3.resultTypes.toList.any (Tryz.prog.ifacesRec ·)))=true:=by kernel_rfl
theorem pN:((Rows.layerAllRow.loopsOut == Tryz.f3.resultTypes.toList.any (Tryz.prog.loopsFrom ·)))=true:=by kernel_rfl
theorem pM:((Rows.layerAllRow.plainKeys == Tryz.prog.plainKeys))=true:=by kernel_rfl
theorem qG:(Rows.layerAllRow.shortTexts.isNone)=true:=by kernel_rfl
theorem qx:(Tryz.prog.stopsHeard)=true:=by kernel_rfl
theorem pW:(Tryz.prog.mayEnter)=true:=by kernel_rfl
theorem qI:((Rows.layerAllRow.lifted == Tryz.prog.liftsFinal))=true:=by kernel_rfl
theorem pE:((Tryz.prog.make == some Rows.layerAllRow.make))=true:=by kernel_rfl
theorem pY:((Rows.layerAllRow.kinds == (if Rows.layerAllRow.domain.isEmpty then [] else Tryz.f3.params.toList.map fun t=>match Tryz.prog.underlying t with | some (.int k)=>some k | _=>none)))=true:=by kernel_rfl
theorem pP:((Rows.layerAllRow.pinned == Rows.layerAllRow.pinnedBy))=true:=by kernel_rfl
theorem pp:((Rows.layerAllRow.veiled == (Tryz.f3.params.toList++Rows.layerAllSpec.plain.varTypes Tryz.prog++Tryz.f3.resultTypes.toList).any (Tryz.prog.veiledRec ·)))=true:=by kernel_rfl
theorem qi:(Rows.layerAllRow.veiledFits Tryz.prog Tryz.f3.params.toList (Tryz.f3.params.toList++Rows.layerAllSpec.plain.varTypes Tryz.prog++Tryz.f3.resultTypes.toList))=true:=by kernel_rfl
theorem ld:joinedFacts Tryz.prog 3 Tryz.f3 Rows.layerAllSpec Rows.layerAllRow=true:=oQ sa rH qZ qP rm rV rB qT qS sl pX qy pC oY oU pI pB qk qv pT pz pN pM qG qx pW qI pE pY pP pp qi
end Go.Proofs.YtjmepebbcnhalaaGreat
