/-
  Swap's laws: a table with its fill,an event,read as data.
  Swap's laws: a table read as data,with what its lists may weigh,and its features in range.
  SwapLists answers true of every table: List answers what the document's own List answers,the same when asked again,in lists of the call's own,and leaves what it was lent as it was. No condition.
  What is closed of SwapLists's row,fact by fact.
-/
import Derived.Test.YthfjgpjcepmnmaaGreatZ37
import Derived.Test.YthfjgpjcepmnmaaGreatZ15
import Derived.Test.YthfjgpjcepmnmaaGreatZ46
import Derived.Test.YthfjgpjcepmnmaaGreatZ32
import Derived.Test.YthfjgpjcepmnmaaGreatZ53
import Derived.Test.YthfjgpjcepmnmaaGreatRows
import Derived.JoinedOf
namespace Go.Proofs.YthfjgpjcepmnmaaGreat
set_option maxRecDepth 100000
open Go.ChangeShapes Go.WideShapes Go.ChangeAt Go.RowKit Go.Deep
theorem cOfTb1:Tryz.prog.cellsOf 72=6:=by kernel_rfl
theorem fill_cells {H:Type} {enc:TypeId×Value→H} {w:World} {base:Nat} {sp:Nat→Bool} {held:Bool} {fuel:Nat} {c0 c1 c2:Value} {x:DataW H×List MemPlace} (hf:DataW.trod enc Tryz.prog w base sp held fuel 70 [c0,c1,c2]=some x) (hz:∀ n∈x.1.weights Tryz.prog 70,n≤reachBytes):∃ (op:Bool) (cs:List Ent) (ms:List Mk),c2=.bool op∧FiA w c0 c1 cs ms:=by
 obtain⟨xs,n,_,hx,_,hlen,hfl⟩:=DataW.trod_struct Tryz.underlying70 hf
 match xs,hlen with
 | [y0,y1,y2],_ =>
  have t0:DataW.trod enc Tryz.prog w base sp held n 67 (([c0,c1,c2].drop 0).take (Tryz.prog.cellsOf 67))=some y0:=hfl 0 _ rfl
  have t1:DataW.trod enc Tryz.prog w base sp held n 68 (([c0,c1,c2].drop 1).take (Tryz.prog.cellsOf 68))=some y1:=hfl 1 _ rfl
  have t2:DataW.trod enc Tryz.prog w base sp held n 4 (([c0,c1,c2].drop 2).take (Tryz.prog.cellsOf 4))=some y2:=hfl 2 _ rfl
  rw[Tryz.cells67''] at t0
  rw[Tryz.cells68''] at t1
  rw[Tryz.cells4''] at t2
  obtain⟨cs,hC,hP,hCz⟩:=cards_open (v:=c0) t0 (fun n hn=>hz n (by
   rw[hx]
   simp only[DataW.weights,Tryz.underlying70]
   exact DataW.weights_mem_each (j:=0) rfl rfl n hn))
  obtain⟨ms,hM,hK,hMz⟩:=marks_open (v:=c1) t1 (fun n hn=>hz n (by
   rw[hx]
   simp only[DataW.weights,Tryz.underlying70]
   exact DataW.weights_mem_each (j:=1) rfl rfl n hn))
  obtain⟨op,e2,_⟩:=DataW.trod_bool Tryz.underlying4 (cs:=[c2]) t2
  simp only[List.cons.injEq,and_true] at e2
  exact⟨op,cs,ms,e2,hC,hM,hP,hK,hCz,hMz⟩
theorem bytesTh:Tryz.prog.bytesOf 100=88:=by kernel_rfl
theorem bytesFe:Tryz.prog.bytesOf 65=32:=by kernel_rfl
theorem recs_big {α:Type} [Inhabited α] (R:RecT α) (Q:α→Prop) (b:Nat) {T E:TypeId} (hu:Tryz.prog.underlying T=some (.slice E)) (hk:Tryz.prog.cellsOf E=R.k) (hb:Tryz.prog.bytesOf E=b) {H:Type} {enc:TypeId×Value→H} {w:World} {base:Nat} {sp:Nat→Bool} {held:Bool} (hc:∀ {fuel:Nat} {l:List Value} {x:DataW H×List MemPlace},l.length=R.k→DataW.trod enc Tryz.prog w base sp held fuel E l=some x→∃ e,l=R.enc e∧Q e) {fuel:Nat} {v:Value} {x:DataW H×List MemPlace} (h:DataW.trod enc Tryz.prog w base sp held fuel T [v]=some x) (hz:∀ n∈x.1.weights Tryz.prog T,n≤reachBytes):∃ l,R.At w v l∧(∀ e∈l,Q e)∧l.length*b≤reachBytes:=by
 rcases open_slice hu h with ⟨hcs,_⟩ | ⟨a,len,cp,m,f,D,Pl,hcs,_,hl,hm,hmm,hxx,hx⟩
 ·simp at hcs
  subst hcs
  exact⟨[],RecT.At.nil R w,fun e he=>(List.not_mem_nil he).elim,by simp⟩
 ·simp at hcs
  subst hcs
  rw[hk] at hx
  have hnm:len≤m:=by rw[hmm];split <;> omega
  have hp:∀ i,i<len→∃ e:α,Q e∧∀ k u,(R.enc e)[k]?=some u→w.cell? ((a.add (i*R.k)).add k)=some u:=fun i hi=>by
   obtain⟨cs',h1,h2⟩:=hx i (by omega)
   obtain⟨_,hlen,hcc⟩:=World.cells?_some h1
   obtain⟨e,he,hQ⟩:=hc hlen h2
   subst he
   refine⟨e,hQ,fun k y hk'=>?_⟩
   have hk4:k<R.k:=by have:=(List.getElem?_eq_some_iff.1 hk').1;rwa [R.hk] at this
   rw[hcc k hk4]
   exact hk'
  obtain⟨F,hF⟩:=choose_lt (α:=α) hp
  have hln:((List.range len).map F).length=len:=by simp
  refine⟨(List.range len).map F,⟨some a,cp,by rw[hln],by rw[hln];exact Nat.le_trans hl hm,fun h0=>?_⟩,fun e he=>?_,?_⟩
  ·have h0':0<len:=by rwa [hln] at h0
   obtain⟨v0,hv0⟩:∃ v0,(R.enc (F 0))[0]?=some v0:=⟨_,List.getElem?_eq_getElem (by rw[R.hk];exact R.hp)⟩
   have c0:=(hF 0 h0').2 0 _ hv0
   have ex:(a.add (0*R.k)).add 0=a:=by simp[Addr.add]
   rw[ex] at c0
   have pl:=addr_plain c0
   refine⟨a.block,a.off,by rw[←pl],fun j e he=>?_⟩
   have hj:j<len:=by have:=(List.getElem?_eq_some_iff.1 he).1;rwa [hln] at this
   obtain rfl:e=F j:=by simp[hj] at he;exact he.symm
   intro k u hk'
   have:=(hF j hj).2 k u hk'
   rw[add_add pl,pl,add_plain,←Nat.add_assoc] at this
   exact this
  ·obtain⟨i,hi,rfl⟩:=List.mem_map.1 he
   exact(hF i (List.mem_range.1 hi)).1
  ·have hbz:=hz ((len+(m - len))*b) (by rw[hxx];simp[DataW.weights,hu,hb])
   rw[hln]
   exact Nat.le_trans (Nat.mul_le_mul_right _ (by omega)) hbz
theorem feature_tr {H:Type} {enc:TypeId×Value→H} {w:World} {base:Nat} {sp:Nat→Bool} {held:Bool} {fuel:Nat} {l:List Value} {x:DataW H×List MemPlace} (hsz:l.length=5) (hf:DataW.trod enc Tryz.prog w base sp held fuel 65 l=some x):∃ f:Fe,l=fec f∧(0≤f.tr∧f.tr<65536):=by
 obtain⟨f,rfl,_⟩:=feature_cells hsz hf
 refine⟨f,rfl,?_⟩
 obtain⟨xs,n,_,hx,_,hlen,hfl⟩:=DataW.trod_struct Tryz.underlying65 hf
 match xs,hlen with
 | [y0,y1,y2,y3,y4],_ =>
  have t2:DataW.trod enc Tryz.prog w base sp held n 51 (((fec f).drop 2).take (Tryz.prog.cellsOf 51))=some y2:=hfl 2 _ rfl
  rw[cOfTs] at t2
  obtain⟨z2,e2,_,w2⟩:=DataW.trod_int Tryz.underlying51 (cs:=[.int .u16 f.tr]) t2
  simp only[List.cons.injEq,and_true,Value.int.injEq,true_and] at e2
  rw[e2]
  have q:=u16_of w2
  exact⟨q.1,by omega⟩
theorem open_table2 {H:Type} {enc:TypeId×Value→H} {w:World} {base:Nat} {sp:Nat→Bool} {held:Bool} {r:Reach} {b0:Nat} {v:Value} {d:DataW H} {pl:List MemPlace} (hval:Value.okWide Tryz.prog w r b0 72 v) (hd:DataW.Trod enc Tryz.prog w base sp held 72 v d pl) (hz:∀ n∈d.weights Tryz.prog 72,n≤reachBytes):∃ (vc vm vt vf:Value) (op ow:Bool) (cs:List Ent) (ms:List Mk) (ts:List Th) (fs:List Fe),v=tb1v vc vm op vt vf ow∧FiA w vc vm cs ms∧thR.At w vt ts∧feR.At w vf fs∧TrI fs∧(ts.length+2)*88≤140737488355328∧(fs.length+2)*32≤140737488355328:=by
 obtain⟨cs,rfl,hsz⟩:=okWide_struct Tryz.underlying72 hval
 rw[cOfTb1] at hsz
 obtain⟨fuel,hf⟩:=hd
 obtain⟨l⟩:=cs
 obtain⟨c0,c1,c2,c3,c4,c5,rfl⟩:∃ c0 c1 c2 c3 c4 c5,l=[c0,c1,c2,c3,c4,c5]:=by
  match l,(show l.length=6 from hsz) with
  | [c0,c1,c2,c3,c4,c5],_=>exact⟨c0,c1,c2,c3,c4,c5,rfl⟩
 obtain⟨xs,n,_,hx,_,hlen,hfl⟩:=DataW.trod_struct Tryz.underlying72 hf
 match xs,hlen with
 | [y0,y1,y2,y3],_ =>
  have t0:DataW.trod enc Tryz.prog w base sp held n 70 (([c0,c1,c2,c3,c4,c5].drop 0).take (Tryz.prog.cellsOf 70))=some y0:=hfl 0 _ rfl
  have t1:DataW.trod enc Tryz.prog w base sp held n 23 (([c0,c1,c2,c3,c4,c5].drop 3).take (Tryz.prog.cellsOf 23))=some y1:=hfl 1 _ rfl
  have t2:DataW.trod enc Tryz.prog w base sp held n 24 (([c0,c1,c2,c3,c4,c5].drop 4).take (Tryz.prog.cellsOf 24))=some y2:=hfl 2 _ rfl
  have t3:DataW.trod enc Tryz.prog w base sp held n 4 (([c0,c1,c2,c3,c4,c5].drop 5).take (Tryz.prog.cellsOf 4))=some y3:=hfl 3 _ rfl
  rw[cellsOfFill] at t0
  rw[cOfTsL] at t1
  rw[cOfFsL] at t2
  rw[Tryz.cells4''] at t3
  haveI:Inhabited Th:=⟨⟨0,0,0,0,0,0,0,0,0,0,false⟩⟩
  haveI:Inhabited Fe:=⟨Fe.none⟩
  obtain⟨op,ccs,ms,e2,hF⟩:=fill_cells (c0:=c0) (c1:=c1) (c2:=c2) t0 (fun n hn=>hz n (by
   rw[(Prod.mk.inj hx).1]
   simp only[DataW.weights,Tryz.underlying72]
   exact DataW.weights_mem_each (j:=0) rfl rfl n hn))
  obtain⟨ts,hT,_,b1⟩:=recs_big thR (fun _=>True) 88 Tryz.underlying23 cOfTh bytesTh (fun a b=>by obtain⟨t,e⟩:=thing_cells a b;exact⟨t,e,trivial⟩) (v:=c3) t1 (fun n hn=>hz n (by
   rw[(Prod.mk.inj hx).1]
   simp only[DataW.weights,Tryz.underlying72]
   exact DataW.weights_mem_each (j:=1) rfl rfl n hn))
  obtain⟨fs,hE,qE,b2⟩:=recs_big feR (fun f=>0≤f.tr∧f.tr<65536) 32 Tryz.underlying24 cOfFe bytesFe (fun a b=>feature_tr a b) (v:=c4) t2 (fun n hn=>hz n (by
   rw[(Prod.mk.inj hx).1]
   simp only[DataW.weights,Tryz.underlying72]
   exact DataW.weights_mem_each (j:=2) rfl rfl n hn))
  obtain⟨ow,e5,_⟩:=DataW.trod_bool Tryz.underlying4 (cs:=[c5]) t3
  simp only[List.cons.injEq,and_true] at e5
  subst e5
  subst e2
  unfold reachBytes at b1 b2
  exact⟨c0,c1,c3,c4,op,ow,ccs,ms,ts,fs,rfl,hF,hT,hE,qE,by omega,by omega⟩
theorem swapLists_lifted (os:Os) (started:os.Started) (H:Type) (enc:TypeId×Value→H) :
  ReturnsInHanded {} Tryz.checked os 4 .any (Rows.swapListsSpec.pre6 enc Tryz.prog Tryz.f4 Rows.swapListsRow.domain false) (Rows.swapListsSpec.post enc Tryz.prog Tryz.f4 false true false false):=by
 refine returnsInHanded_of_change_sized (C:=Tryz.checked) Tryz.own started (by kernel_rfl) Tryz.func4
  (ChangeSpec.witness6 (enc:=enc) (C:=Tryz.checked) false ⟨#[],#[.agg #[.slice none 0 0,.slice none 0 0,.bool false,.slice none 0 0,.slice none 0 0,.bool false]],[]⟩ 8 (by kernel_rfl) (by kernel_rfl) (by kernel_rfl) (by kernel_rfl)) ?_
 intro W base args ds gs before hval0 hW hcnd hsz _
 have hval:∀ (j:Nat) t v,Tryz.f4.params[j]?=some t→args[j]?=some v→Value.okWide Tryz.prog W .any base t v:=hval0
 have hW':=hW
 obtain⟨p,q,hA0,hV,rfl,hfz,hnd⟩:=hW
 have hA:DataW.TrodAll enc Tryz.prog W 0 (fun _=>true) true Tryz.f4.params.toList args.toList ds p:=hA0
 have hS:(DataW.weightsEach Tryz.prog (Tryz.f4.params.toList++Rows.swapListsSpec.plain.varTypes Tryz.prog) (ds++gs)).all (·≤reachBytes)=true:=hsz
 rw[Tryz.params4] at hA hval hS
 obtain⟨v0,vs0,d0,ds0,p0,q0,hargs,rfl,rfl,h0,r0⟩:=trodAll_cons hA
 obtain⟨rfl,rfl,rfl⟩:=trodAll_nil r0
 obtain rfl:args=#[v0]:=by cases args;simp_all
 obtain⟨rfl,rfl⟩:=trodVars_none hV
 have k0:=h0
 have lt0:∀ x∈p0,x.block<W.heap.size:=by obtain⟨m,hm⟩:=k0;exact DataW.trod_lt m _ _ _ hm
 obtain⟨vc,vm,vt,vf,op,ow,cs,ms,ts,fs,rfl,F0,T0,E0,R0,B0,D0⟩:=open_table2 (hval 0 72 v0 rfl rfl) h0 (fun n hn=>by simpa using List.all_eq_true.1 hS n (DataW.weights_mem_each (j:=0) rfl rfl n hn))
 clear hA0 hval0
 refine(swapLists_any vc vm vt vf op ow cs ms ts fs W F0 T0 E0 R0 B0 D0).mono fun e W' ⟨he,hg⟩=>?_
 subst he
 have bel:=grown_below hg
 exact⟨_,rfl,_,_,_,[],_,[],hW',trodAll_mk1 (shut_bool Tryz.underlying4 _),(trodAll_cons_mk (Below.trod Tryz.laidOut (by kernel_rfl) (of_decide_eq_true (by kernel_rfl)) k0 bel lt0) trodAll_mk0),rfl,bel.frame _,fun h=>by cases h⟩
end Go.Proofs.YthfjgpjcepmnmaaGreat
namespace Go.Proofs.YthfjgpjcepmnmaaGreat
open Go.WideShapes
theorem joined_of_Zl {P:Program} {f:FuncId} {fn:Func} {s:ChangeSpec} {c:OpenClaim} (h0:(c.wf (OpenSpec.ofChange s))=true) (h1:(laidOutB P)=true) (h2:(mapsRowed P)=true) (h3:(fn.params.all (P.readableRec ·))=true) (h4:(namedTie P c.named s.vars)=true) (h5:((c.stops == []))=true) (h6:((P.stops == []))=true) (h7:((c.knobs == []))=true) (h8:((P.stopKnobs == []))=true) (h9:((c.inPlace == P.inPlace f))=true) (h10:((c.unfollowed == P.unfollowed f))=true) (h11:((c.recurses == P.recurses f))=true) (h12:((c.named == P.varsNamed f))=true) (h13:((c.maps == (fn.params.toList++s.plain.varTypes P).any (P.mapsRec ·)))=true) (h14:((c.ifaces == (fn.params.toList++s.plain.varTypes P).any (P.ifacesRec ·)))=true) (h15:((c.mapsOut == P.mapsAmong fn.resultTypes.toList))=true) (h16:((c.loops == (fn.params.toList++s.plain.varTypes P).any (P.loopsFrom ·)))=true) (h17:((c.wideKeys == (fn.params.toList++s.plain.varTypes P++fn.resultTypes.toList).any (P.wideKeysFrom ·)))=true) (h18:(s.vars.all (P.varReadable ·))=true) (h19:(fn.resultTypes.all (fun t=>P.readableRec t && decide (t<P.types.size)))=true) (h20:((c.ifacesOut == fn.resultTypes.toList.any (P.ifacesRec ·)))=true) (h21:((c.loopsOut == fn.resultTypes.toList.any (P.loopsFrom ·)))=true) (h22:((c.plainKeys == P.plainKeys))=true) (h23:(c.shortTexts.isNone)=true) (h24:(P.stopsHeard)=true) (h25:(P.mayEnter)=true) (h26:((c.lifted == P.liftsFinal))=true) (h27:((P.make == some c.make))=true) (h28:((c.kinds == (if c.domain.isEmpty then [] else fn.params.toList.map fun t=>match P.underlying t with | some (.int k)=>some k | _=>none)))=true) (h29:((c.pinned == c.pinnedBy))=true) (h30:((c.veiled == (fn.params.toList++s.plain.varTypes P++fn.resultTypes.toList).any (P.veiledRec ·)))=true) (h31:(c.veiledFits P fn.params.toList (fn.params.toList++s.plain.varTypes P++fn.resultTypes.toList))=true):joinedFacts P f fn s c=true:=by
 unfold joinedFacts
 simp only[Bool.and_eq_true]
 exact⟨⟨⟨⟨⟨⟨⟨⟨⟨⟨⟨⟨⟨⟨⟨⟨⟨⟨⟨⟨⟨⟨⟨⟨⟨⟨⟨⟨⟨⟨⟨h0,h1⟩,h2⟩,h3⟩,h4⟩,h5⟩,h6⟩,h7⟩,h8⟩,h9⟩,h10⟩,h11⟩,h12⟩,h13⟩,h14⟩,h15⟩,h16⟩,h17⟩,h18⟩,h19⟩,h20⟩,h21⟩,h22⟩,h23⟩,h24⟩,h25⟩,h26⟩,h27⟩,h28⟩,h29⟩,h30⟩,h31⟩
theorem swapLists_c0:(Rows.swapListsRow.wf (OpenSpec.ofChange Rows.swapListsSpec))=true:=by kernel_rfl
theorem swapLists_c1:(laidOutB Tryz.prog)=true:=by kernel_rfl
theorem swapLists_c2:(mapsRowed Tryz.prog)=true:=by kernel_rfl
theorem swapLists_c3:(Tryz.f4.params.all (Tryz.prog.readableRec ·))=true:=by kernel_rfl
theorem swapLists_c4:(namedTie Tryz.prog Rows.swapListsRow.named Rows.swapListsSpec.vars)=true:=by kernel_rfl
theorem swapLists_c5:((Rows.swapListsRow.stops == []))=true:=by kernel_rfl
theorem swapLists_c6:((Tryz.prog.stops == []))=true:=by kernel_rfl
theorem swapLists_c7:((Rows.swapListsRow.knobs == []))=true:=by kernel_rfl
theorem swapLists_c8:((Tryz.prog.stopKnobs == []))=true:=by kernel_rfl
theorem swapLists_c9:((Rows.swapListsRow.inPlace == Tryz.prog.inPlace 4))=true:=by kernel_rfl
theorem swapLists_c10:((Rows.swapListsRow.unfollowed == Tryz.prog.unfollowed 4))=true:=by kernel_rfl
theorem swapLists_c11:((Rows.swapListsRow.recurses == Tryz.prog.recurses 4))=true:=by kernel_rfl
theorem swapLists_c12:((Rows.swapListsRow.named == Tryz.prog.varsNamed 4))=true:=by kernel_rfl
theorem swapLists_c13:((Rows.swapListsRow.maps == (Tryz.f4.params.toList++Rows.swapListsSpec.plain.varTypes Tryz.prog).any (Tryz.prog.mapsRec ·)))=true:=by kernel_rfl
theorem swapLists_c14:((Rows.swapListsRow.ifaces == (Tryz.f4.params.toList++Rows.swapListsSpec.plain.varTypes Tryz.prog).any (Tryz.prog.ifacesRec ·)))=true:=by kernel_rfl
theorem swapLists_c15:((Rows.swapListsRow.mapsOut == Tryz.prog.mapsAmong Tryz.f4.resultTypes.toList))=true:=by kernel_rfl
theorem swapLists_c16:((Rows.swapListsRow.loops == (Tryz.f4.params.toList++Rows.swapListsSpec.plain.varTypes Tryz.prog).any (Tryz.prog.loopsFrom ·)))=true:=by kernel_rfl
theorem swapLists_c17:((Rows.swapListsRow.wideKeys == (Tryz.f4.params.toList++Rows.swapListsSpec.plain.varTypes Tryz.prog++Tryz.f4.resultTypes.toList).any (Tryz.prog.wideKeysFrom ·)))=true:=by kernel_rfl
theorem swapLists_c18:(Rows.swapListsSpec.vars.all (Tryz.prog.varReadable ·))=true:=by kernel_rfl
theorem swapLists_c19:(Tryz.f4.resultTypes.all (fun t=>Tryz.prog.readableRec t && decide (t<Tryz.prog.types.size)))=true:=by kernel_rfl
theorem swapLists_c20:((Rows.swapListsRow.ifacesOut == Tryz.f4.resultTypes.toList.any (Tryz.prog.ifacesRec ·)))=true:=by kernel_rfl
theorem swapLists_c21:((Rows.swapListsRow.loopsOut == Tryz.f4.resultTypes.toList.any (Tryz.prog.loopsFrom ·)))=true:=by kernel_rfl
theorem swapLists_c22:((Rows.swapListsRow.plainKeys == Tryz.prog.plainKeys))=true:=by kernel_rfl
theorem swapLists_c23:(Rows.swapListsRow.shortTexts.isNone)=true:=by kernel_rfl
theorem swapLists_c24:(Tryz.prog.stopsHeard)=true:=by kernel_rfl
theorem swapLists_c25:(Tryz.prog.mayEnter)=true:=by kernel_rfl
theorem swapLists_c26:((Rows.swapListsRow.lifted == Tryz.prog.liftsFinal))=true:=by kernel_rfl
theorem swapLists_c27:((Tryz.prog.make == some Rows.swapListsRow.make))=true:=by kernel_rfl
theorem swapLists_c28:((Rows.swapListsRow.kinds == (if Rows.swapListsRow.domain.isEmpty then [] else Tryz.f4.params.toList.map fun t=>match Tryz.prog.underlying t with | some (.int k)=>some k | _=>none)))=true:=by kernel_rfl
theorem swapLists_c29:((Rows.swapListsRow.pinned == Rows.swapListsRow.pinnedBy))=true:=by kernel_rfl
theorem swapLists_c30:((Rows.swapListsRow.veiled == (Tryz.f4.params.toList++Rows.swapListsSpec.plain.varTypes Tryz.prog++Tryz.f4.resultTypes.toList).any (Tryz.prog.veiledRec ·)))=true:=by kernel_rfl
theorem swapLists_c31:(Rows.swapListsRow.veiledFits Tryz.prog Tryz.f4.params.toList (Tryz.f4.params.toList++Rows.swapListsSpec.plain.varTypes Tryz.prog++Tryz.f4.resultTypes.toList))=true:=by kernel_rfl
theorem swapLists_closed:joinedFacts Tryz.prog 4 Tryz.f4 Rows.swapListsSpec Rows.swapListsRow=true:=joined_of_Zl swapLists_c0 swapLists_c1 swapLists_c2 swapLists_c3 swapLists_c4 swapLists_c5 swapLists_c6 swapLists_c7 swapLists_c8 swapLists_c9 swapLists_c10 swapLists_c11 swapLists_c12 swapLists_c13 swapLists_c14 swapLists_c15 swapLists_c16 swapLists_c17 swapLists_c18 swapLists_c19 swapLists_c20 swapLists_c21 swapLists_c22 swapLists_c23 swapLists_c24 swapLists_c25 swapLists_c26 swapLists_c27 swapLists_c28 swapLists_c29 swapLists_c30 swapLists_c31
end Go.Proofs.YthfjgpjcepmnmaaGreat
