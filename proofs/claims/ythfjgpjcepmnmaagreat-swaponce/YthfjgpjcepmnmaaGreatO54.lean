import Derived.Test.YthfjgpjcepmnmaaGreatO31
import Derived.Test.YthfjgpjcepmnmaaGreatO13
import Derived.Test.YthfjgpjcepmnmaaGreatO29
import Derived.Test.YthfjgpjcepmnmaaGreatO51
import Derived.Test.YthfjgpjcepmnmaaGreatSoL
import Derived.Test.YthfjgpjcepmnmaaGreatRows
import Derived.JoinedOf
namespace Go.Proofs.YthfjgpjcepmnmaaGreat
set_option maxRecDepth 100000
open Go.ChangeShapes Go.WideShapes Go.ChangeAt Go.RowKit Go.Deep
theorem Eu:Tryz.prog.cellsOf 72=6:=by kernel_rfl
theorem FA:Tryz.prog.cellsOf 43=6:=by kernel_rfl
theorem uD {H:Type} {enc:TypeId×Value→H} {w:World} {base:Nat} {sp:Nat→Bool} {held:Bool} {fuel:Nat} {c0 c1 c2:Value} {x:DataW H×List MemPlace} (hf:DataW.trod enc Tryz.prog w base sp held fuel 70 [c0,c1,c2]=some x) (hz:∀ n∈x.1.weights Tryz.prog 70,n≤reachBytes):∃ (op:Bool) (cs:List Ent) (ms:List Mk),c2=.bool op∧FiA w c0 c1 cs ms:=by
 obtain⟨xs,n,_,hx,_,hlen,hfl⟩:=DataW.trod_struct Tryz.underlying70 hf
 match xs,hlen with
 | [y0,y1,y2],_ =>
  have t0:DataW.trod enc Tryz.prog w base sp held n 67 (([c0,c1,c2].drop 0).take (Tryz.prog.cellsOf 67))=some y0:=hfl 0 _ rfl
  have t1:DataW.trod enc Tryz.prog w base sp held n 68 (([c0,c1,c2].drop 1).take (Tryz.prog.cellsOf 68))=some y1:=hfl 1 _ rfl
  have t2:DataW.trod enc Tryz.prog w base sp held n 4 (([c0,c1,c2].drop 2).take (Tryz.prog.cellsOf 4))=some y2:=hfl 2 _ rfl
  rw[Tryz.cells67''] at t0
  rw[Tryz.cells68''] at t1
  rw[Tryz.cells4''] at t2
  obtain⟨cs,hC,hP,hCz⟩:=vd (v:=c0) t0 (fun n hn=>hz n (by
   rw[hx]
   simp only[DataW.weights,Tryz.underlying70]
   exact DataW.weights_mem_each (j:=0) rfl rfl n hn))
  obtain⟨ms,hM,hK,hMz⟩:=uo (v:=c1) t1 (fun n hn=>hz n (by
   rw[hx]
   simp only[DataW.weights,Tryz.underlying70]
   exact DataW.weights_mem_each (j:=1) rfl rfl n hn))
  obtain⟨op,e2,_⟩:=DataW.trod_bool Tryz.underlying4 (cs:=[c2]) t2
  simp only[List.cons.injEq,and_true] at e2
  exact⟨op,cs,ms,e2,hC,hM,hP,hK,hCz,hMz⟩
theorem rr {H:Type} {enc:TypeId×Value→H} {w:World} {base:Nat} {sp:Nat→Bool} {held:Bool} {r:Reach} {b0:Nat} {v:Value} {d:DataW H} {pl:List MemPlace} (hval:Value.okWide Tryz.prog w r b0 72 v) (hd:DataW.Trod enc Tryz.prog w base sp held 72 v d pl) (hz:∀ n∈d.weights Tryz.prog 72,n≤reachBytes):∃ (vc vm vt vf:Value) (op ow:Bool) (cs:List Ent) (ms:List Mk) (ts:List Th) (fs:List Fe),v=yu vc vm op vt vf ow∧FiA w vc vm cs ms∧thR.At w vt ts∧feR.At w vf fs:=by
 obtain⟨cs,rfl,hsz⟩:=okWide_struct Tryz.underlying72 hval
 rw[Eu] at hsz
 obtain⟨fuel,hf⟩:=hd
 obtain⟨l⟩:=cs
 obtain⟨c0,c1,c2,c3,c4,c5,rfl⟩:∃ c0 c1 c2 c3 c4 c5,l=[c0,c1,c2,c3,c4,c5]:=by
  match l,(show l.length=6 from hsz) with
  | [c0,c1,c2,c3,c4,c5],_=>exact⟨c0,c1,c2,c3,c4,c5,rfl⟩
 obtain⟨xs,n,_,hx,_,hlen,hfl⟩:=DataW.trod_struct Tryz.underlying72 hf
 match xs,hlen with
 | [y0,y1,y2,y3],_ =>
  have t0:DataW.trod enc Tryz.prog w base sp held n 70 (([c0,c1,c2,c3,c4,c5].drop 0).take (Tryz.prog.cellsOf 70))=some y0:=hfl 0 _ rfl
  have t1:DataW.trod enc Tryz.prog w base sp held n 23 (([c0,c1,c2,c3,c4,c5].drop 3).take (Tryz.prog.cellsOf 23))=some y1:=hfl 1 _ rfl
  have t2:DataW.trod enc Tryz.prog w base sp held n 24 (([c0,c1,c2,c3,c4,c5].drop 4).take (Tryz.prog.cellsOf 24))=some y2:=hfl 2 _ rfl
  have t3:DataW.trod enc Tryz.prog w base sp held n 4 (([c0,c1,c2,c3,c4,c5].drop 5).take (Tryz.prog.cellsOf 4))=some y3:=hfl 3 _ rfl
  rw[sc] at t0
  rw[EE] at t1
  rw[EQ] at t2
  rw[Tryz.cells4''] at t3
  haveI:Inhabited Th:=⟨⟨0,0,0,0,0,0,0,0,0,0,false⟩⟩
  haveI:Inhabited Fe:=⟨Fe.none⟩
  obtain⟨op,ccs,ms,e2,hF⟩:=uD (c0:=c0) (c1:=c1) (c2:=c2) t0 (fun n hn=>hz n (by
   rw[(Prod.mk.inj hx).1]
   simp only[DataW.weights,Tryz.underlying72]
   exact DataW.weights_mem_each (j:=0) rfl rfl n hn))
  obtain⟨ts,hT⟩:=oI thR Tryz.underlying23 Fy (fun a b=>tw a b) (v:=c3) t1
  obtain⟨fs,hE⟩:=oI feR Tryz.underlying24 FG (fun a b=>by obtain⟨f,e,_⟩:=nI a b;exact⟨f,e⟩) (v:=c4) t2
  obtain⟨ow,e5,_⟩:=DataW.trod_bool Tryz.underlying4 (cs:=[c5]) t3
  simp only[List.cons.injEq,and_true] at e5
  subst e5
  subst e2
  exact⟨c0,c1,c3,c4,op,ow,ccs,ms,ts,fs,rfl,hF,hT,hE⟩
theorem D6 {H:Type} {enc:TypeId×Value→H} {w:World} {base:Nat} {sp:Nat→Bool} {held:Bool} {r:Reach} {b0:Nat} {v:Value} {d:DataW H} {pl:List MemPlace} (hval:Value.okWide Tryz.prog w r b0 43 v) (hd:DataW.Trod enc Tryz.prog w base sp held 43 v d pl):∃ h:Hp,v=hpv h:=by
 obtain⟨cs,rfl,hsz⟩:=okWide_struct Tryz.underlying43 hval
 rw[FA] at hsz
 obtain⟨fuel,hf⟩:=hd
 obtain⟨l⟩:=cs
 obtain⟨c0,c1,c2,c3,c4,c5,rfl⟩:∃ c0 c1 c2 c3 c4 c5,l=[c0,c1,c2,c3,c4,c5]:=by
  match l,(show l.length=6 from hsz) with
  | [c0,c1,c2,c3,c4,c5],_=>exact⟨c0,c1,c2,c3,c4,c5,rfl⟩
 obtain⟨xs,n,_,hx,_,hlen,hfl⟩:=DataW.trod_struct Tryz.underlying43 hf
 match xs,hlen with
 | [y0,y1,y2,y3,y4,y5],_ =>
  have t0:DataW.trod enc Tryz.prog w base sp held n 32 (([c0,c1,c2,c3,c4,c5].drop 0).take (Tryz.prog.cellsOf 32))=some y0:=hfl 0 _ rfl
  rw[Tryz.cells32'] at t0
  have t1:DataW.trod enc Tryz.prog w base sp held n 3 (([c0,c1,c2,c3,c4,c5].drop 1).take (Tryz.prog.cellsOf 3))=some y1:=hfl 1 _ rfl
  rw[Tryz.cells3'] at t1
  have t2:DataW.trod enc Tryz.prog w base sp held n 3 (([c0,c1,c2,c3,c4,c5].drop 2).take (Tryz.prog.cellsOf 3))=some y2:=hfl 2 _ rfl
  rw[Tryz.cells3'] at t2
  have t3:DataW.trod enc Tryz.prog w base sp held n 3 (([c0,c1,c2,c3,c4,c5].drop 3).take (Tryz.prog.cellsOf 3))=some y3:=hfl 3 _ rfl
  rw[Tryz.cells3'] at t3
  have t4:DataW.trod enc Tryz.prog w base sp held n 4 (([c0,c1,c2,c3,c4,c5].drop 4).take (Tryz.prog.cellsOf 4))=some y4:=hfl 4 _ rfl
  rw[Tryz.cells4''] at t4
  have t5:DataW.trod enc Tryz.prog w base sp held n 4 (([c0,c1,c2,c3,c4,c5].drop 5).take (Tryz.prog.cellsOf 4))=some y5:=hfl 5 _ rfl
  rw[Tryz.cells4''] at t5
  obtain⟨z0,e0,_,w0⟩:=DataW.trod_int Tryz.underlying32 (cs:=[c0]) t0
  simp only[List.cons.injEq,and_true] at e0
  subst e0
  obtain⟨z1,e1,_,w1⟩:=DataW.trod_int Tryz.underlying3 (cs:=[c1]) t1
  simp only[List.cons.injEq,and_true] at e1
  subst e1
  obtain⟨z2,e2,_,w2⟩:=DataW.trod_int Tryz.underlying3 (cs:=[c2]) t2
  simp only[List.cons.injEq,and_true] at e2
  subst e2
  obtain⟨z3,e3,_,w3⟩:=DataW.trod_int Tryz.underlying3 (cs:=[c3]) t3
  simp only[List.cons.injEq,and_true] at e3
  subst e3
  obtain⟨z4,e4,_⟩:=DataW.trod_bool Tryz.underlying4 (cs:=[c4]) t4
  simp only[List.cons.injEq,and_true] at e4
  subst e4
  obtain⟨z5,e5,_⟩:=DataW.trod_bool Tryz.underlying4 (cs:=[c5]) t5
  simp only[List.cons.injEq,and_true] at e5
  subst e5
  exact⟨⟨z0,z1,z2,z3,z4,z5⟩,rfl⟩
theorem kU (os:Os) (started:os.Started) (H:Type) (enc:TypeId×Value→H) :
  ReturnsInHanded {} Tryz.checked os 6 .any (Rows.swapOnceSpec.pre6 enc Tryz.prog Tryz.f6 Rows.swapOnceRow.domain false) (Rows.swapOnceSpec.post enc Tryz.prog Tryz.f6 false true false false):=by
 refine returnsInHanded_of_change_sized (C:=Tryz.checked) Tryz.own started (by kernel_rfl) Tryz.func6
  (ChangeSpec.witness6 (enc:=enc) (C:=Tryz.checked) false ⟨#[],#[.agg #[.slice none 0 0,.slice none 0 0,.bool false,.slice none 0 0,.slice none 0 0,.bool false],.agg #[.int .u8 0,.int .i64 0,.int .i64 0,.int .i64 0,.bool false,.bool false],.int .i64 0],[]⟩ 8 (by kernel_rfl) (by kernel_rfl) (by kernel_rfl) (by kernel_rfl)) ?_
 intro W base args ds gs before hval0 hW hcnd hsz _
 have hval:∀ (j:Nat) t v,Tryz.f6.params[j]?=some t→args[j]?=some v→Value.okWide Tryz.prog W .any base t v:=hval0
 have hW':=hW
 obtain⟨p,q,hA0,hV,rfl,hfz,hnd⟩:=hW
 have hA:DataW.TrodAll enc Tryz.prog W 0 (fun _=>true) true Tryz.f6.params.toList args.toList ds p:=hA0
 have hS:(DataW.weightsEach Tryz.prog (Tryz.f6.params.toList++Rows.swapOnceSpec.plain.varTypes Tryz.prog) (ds++gs)).all (·≤reachBytes)=true:=hsz
 rw[Tryz.params6] at hA hval hS
 obtain⟨v0,vs0,d0,ds0,p0,q0,hargs,rfl,rfl,h0,r0⟩:=trodAll_cons hA
 obtain⟨v1,vs1,d1,ds1,p1,q1,rfl,rfl,rfl,h1,r1⟩:=trodAll_cons r0
 obtain⟨v2,vs2,d2,ds2,p2,q2,rfl,rfl,rfl,h2,r2⟩:=trodAll_cons r1
 obtain⟨rfl,rfl,rfl⟩:=trodAll_nil r2
 obtain rfl:args=#[v0,v1,v2]:=by cases args;simp_all
 obtain⟨rfl,rfl⟩:=trodVars_none hV
 have k0:=h0
 have lt0:∀ x∈p0,x.block<W.heap.size:=by obtain⟨m,hm⟩:=k0;exact DataW.trod_lt m _ _ _ hm
 obtain⟨vc,vm,vt,vf,op,ow,cs,ms,ts,fs,rfl,F0,T0,E0⟩:=rr (hval 0 72 v0 rfl rfl) h0 (fun n hn=>by simpa using List.all_eq_true.1 hS n (DataW.weights_mem_each (j:=0) rfl rfl n hn))
 have k1:=h1
 have lt1:∀ x∈p1,x.block<W.heap.size:=by obtain⟨m,hm⟩:=k1;exact DataW.trod_lt m _ _ _ hm
 obtain⟨hp1,rfl⟩:=D6 (hval 1 43 v1 rfl rfl) h1
 obtain⟨a2,rfl,rfl,rfl,w2⟩:=open_int Tryz.underlying3 (hval 2 3 v2 rfl rfl) h2
 clear hA0 hval0
 refine(qo vc vm vt vf op ow cs ms ts fs hp1 a2 W F0 T0 E0).mono fun e W' ⟨he,hg⟩=>?_
 subst he
 have bel:=iD hg
 exact⟨_,rfl,_,_,_,[],_,[],hW',trodAll_mk1 (shut_bool Tryz.underlying4 _),(trodAll_cons_mk (Below.trod Tryz.laidOut (by kernel_rfl) (of_decide_eq_true (by kernel_rfl)) k0 bel lt0) (trodAll_cons_mk (Below.trod Tryz.laidOut (by kernel_rfl) (of_decide_eq_true (by kernel_rfl)) k1 bel lt1) (trodAll_cons_mk (shut_int Tryz.underlying3 w2) trodAll_mk0))),rfl,bel.frame _,fun h=>by cases h⟩
end Go.Proofs.YthfjgpjcepmnmaaGreat
namespace Go.Proofs.YthfjgpjcepmnmaaGreat
open Go.WideShapes
theorem yi {P:Program} {f:FuncId} {fn:Func} {s:ChangeSpec} {c:OpenClaim} (h0:(c.wf (OpenSpec.ofChange s))=true) (h1:(laidOutB P)=true) (h2:(mapsRowed P)=true) (h3:(fn.params.all (P.readableRec ·))=true) (h4:(namedTie P c.named s.vars)=true) (h5:((c.stops == []))=true) (h6:((P.stops == []))=true) (h7:((c.knobs == []))=true) (h8:((P.stopKnobs == []))=true) (h9:((c.inPlace == P.inPlace f))=true) (h10:((c.unfollowed == P.unfollowed f))=true) (h11:((c.recurses == P.recurses f))=true) (h12:((c.named == P.varsNamed f))=true) (h13:((c.maps == (fn.params.toList++s.plain.varTypes P).any (P.mapsRec ·)))=true) (h14:((c.ifaces == (fn.params.toList++s.plain.varTypes P).any (P.ifacesRec ·)))=true) (h15:((c.mapsOut == P.mapsAmong fn.resultTypes.toList))=true) (h16:((c.loops == (fn.params.toList++s.plain.varTypes P).any (P.loopsFrom ·)))=true) (h17:((c.wideKeys == (fn.params.toList++s.plain.varTypes P++fn.resultTypes.toList).any (P.wideKeysFrom ·)))=true) (h18:(s.vars.all (P.varReadable ·))=true) (h19:(fn.resultTypes.all (fun t=>P.readableRec t && decide (t<P.types.size)))=true) (h20:((c.ifacesOut == fn.resultTypes.toList.any (P.ifacesRec ·)))=true) (h21:((c.loopsOut == fn.resultTypes.toList.any (P.loopsFrom ·)))=true) (h22:((c.plainKeys == P.plainKeys))=true) (h23:(c.shortTexts.isNone)=true) (h24:(P.stopsHeard)=true) (h25:(P.mayEnter)=true) (h26:((c.lifted == P.liftsFinal))=true) (h27:((P.make == some c.make))=true) (h28:((c.kinds == (if c.domain.isEmpty then [] else fn.params.toList.map fun t=>match P.underlying t with | some (.int k)=>some k | _=>none)))=true) (h29:((c.pinned == c.pinnedBy))=true) (h30:((c.veiled == (fn.params.toList++s.plain.varTypes P++fn.resultTypes.toList).any (P.veiledRec ·)))=true) (h31:(c.veiledFits P fn.params.toList (fn.params.toList++s.plain.varTypes P++fn.resultTypes.toList))=true):joinedFacts P f fn s c=true:=by
 unfold joinedFacts
 simp only[Bool.and_eq_true]
 exact⟨⟨⟨⟨⟨⟨⟨⟨⟨⟨⟨⟨⟨⟨⟨⟨⟨⟨⟨⟨⟨⟨⟨⟨⟨⟨⟨⟨⟨⟨⟨h0,h1⟩,h2⟩,h3⟩,h4⟩,h5⟩,h6⟩,h7⟩,h8⟩,h9⟩,h10⟩,h11⟩,h12⟩,h13⟩,h14⟩,h15⟩,h16⟩,h17⟩,h18⟩,h19⟩,h20⟩,h21⟩,h22⟩,h23⟩,h24⟩,h25⟩,h26⟩,h27⟩,h28⟩,h29⟩,h30⟩,h31⟩
theorem sZ:(Rows.swapOnceRow.wf (OpenSpec.ofChange Rows.swapOnceSpec))=true:=by kernel_rfl
theorem tq:(laidOutB Tryz.prog)=true:=by kernel_rfl
theorem sD:(mapsRowed Tryz.prog)=true:=by kernel_rfl
theorem rn:(Tryz.f6.params.all (Tryz.prog.readableRec ·))=true:=by kernel_rfl
theorem sP:(namedTie Tryz.prog Rows.swapOnceRow.named Rows.swapOnceSpec.vars)=true:=by kernel_rfl
theorem rt:((Rows.swapOnceRow.stops == []))=true:=by kernel_rfl
theorem sR:((Tryz.prog.stops == []))=true:=by kernel_rfl
theorem rV:((Rows.swapOnceRow.knobs == []))=true:=by kernel_rfl
theorem tf:((Tryz.prog.stopKnobs == []))=true:=by kernel_rfl
theorem tg:((Rows.swapOnceRow.inPlace == Tryz.prog.inPlace 6))=true:=by kernel_rfl
theorem pM:((Rows.swapOnceRow.unfollowed == Tryz.prog.unfollowed 6))=true:=by kernel_rfl
theorem pJ:((Rows.swapOnceRow.recurses == Tryz.prog.recurses 6))=true:=by kernel_rfl
theorem pH:((Rows.swapOnceRow.named == Tryz.prog.varsNamed 6))=true:=by kernel_rfl
theorem qq:((Rows.swapOnceRow.maps == (Tryz.f6.params.toList++Rows.swapOnceSpec.plain.varTypes Tryz.prog).any (Tryz.prog.mapsRec ·)))=true:=by kernel_rfl
theorem pQ:((Rows.swapOnceRow.ifaces == (Tryz.f6.params.toList++Rows.swapOnceSpec.plain.varTypes Tryz.prog).any (Tryz.prog.ifacesRec ·)))=true:=by kernel_rfl
theorem oV:((Rows.swapOnceRow.mapsOut == Tryz.prog.mapsAmong Tryz.f6.resultTypes.toList))=true:=by kernel_rfl
theorem qk:((Rows.swapOnceRow.loops == (Tryz.f6.params.toList++Rows.swapOnceSpec.plain.varTypes Tryz.prog).any (Tryz.prog.loopsFrom ·)))=true:=by kernel_rfl
theorem qy:((Rows.swapOnceRow.wideKeys == (Tryz.f6.params.toList++Rows.swapOnceSpec.plain.varTypes Tryz.prog++Tryz.f6.resultTypes.toList).any (Tryz.prog.wideKeysFrom ·)))=true:=by kernel_rfl
theorem pI:(Rows.swapOnceSpec.vars.all (Tryz.prog.varReadable ·))=true:=by kernel_rfl
theorem qS:(Tryz.f6.resultTypes.all (fun t=>Tryz.prog.readableRec t && decide (t<Tryz.prog.types.size)))=true:=by kernel_rfl
theorem ql:((Rows.swapOnceRow.ifacesOut == Tryz.f6.resultTypes.toList.any (Tryz.prog.ifacesRec ·)))=true:=by kernel_rfl
theorem qp:((Rows.swapOnceRow.loopsOut == Tryz.f6.resultTypes.toList.any (Tryz.prog.loopsFrom ·)))=true:=by kernel_rfl
theorem qF:((Rows.swapOnceRow.plainKeys == Tryz.prog.plainKeys))=true:=by kernel_rfl
theorem py:(Rows.swapOnceRow.shortTexts.isNone)=true:=by kernel_rfl
theorem pw:(Tryz.prog.stopsHeard)=true:=by kernel_rfl
theorem qW:(Tryz.prog.mayEnter)=true:=by kernel_rfl
theorem qK:((Rows.swapOnceRow.lifted == Tryz.prog.liftsFinal))=true:=by kernel_rfl
theorem qm:((Tryz.prog.make == some Rows.swapOnceRow.make))=true:=by kernel_rfl
theorem pW:((Rows.swapOnceRow.kinds == (if Rows.swapOnceRow.domain.isEmpty then [] else Tryz.f6.params.toList.map fun t=>match Tryz.prog.underlying t with | some (.int k)=>some k | _=>none)))=true:=by kernel_rfl
theorem pi:((Rows.swapOnceRow.pinned == Rows.swapOnceRow.pinnedBy))=true:=by kernel_rfl
theorem qQ:((Rows.swapOnceRow.veiled == (Tryz.f6.params.toList++Rows.swapOnceSpec.plain.varTypes Tryz.prog++Tryz.f6.resultTypes.toList).any (Tryz.prog.veiledRec ·)))=true:=by kernel_rfl
theorem pV:(Rows.swapOnceRow.veiledFits Tryz.prog Tryz.f6.params.toList (Tryz.f6.params.toList++Rows.swapOnceSpec.plain.varTypes Tryz.prog++Tryz.f6.resultTypes.toList))=true:=by kernel_rfl
theorem l5:joinedFacts Tryz.prog 6 Tryz.f6 Rows.swapOnceSpec Rows.swapOnceRow=true:=yi sZ tq sD rn sP rt sR rV tf tg pM pJ pH qq pQ oV qk qy pI qS ql qp qF py pw qW qK qm pW pi qQ pV
end Go.Proofs.YthfjgpjcepmnmaaGreat
