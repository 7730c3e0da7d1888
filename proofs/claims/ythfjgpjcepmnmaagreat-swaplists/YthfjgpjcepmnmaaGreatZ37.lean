/-
  Layers: what is answered of no book.
  The book of chapter 18's examples.
  Layers: the book of the chapter's examples.
  Layers: the chapter's example.
  Layers: the chapter's examples,plainly.
  Layers: awake.
  LayerNone: what is answered of no book.
  Layers: a table and a standing effect,read as data.
  Layers' laws,small helpers: Pick;lists copied;lists held against lists that are the same;heavy.
  SameFeatures,SameStandings of lists that are the same.
  A pair of books,filled alike: CopyCard;what a step keeps.
-/
import Derived.Test.YthfjgpjcepmnmaaGreatZ29
import Derived.Test.YthfjgpjcepmnmaaGreatZ22
import Derived.Test.YthfjgpjcepmnmaaGreatZ15
import Derived.Test.YthfjgpjcepmnmaaGreatZ14
import Derived.Test.YthfjgpjcepmnmaaGreatZ3
import Derived.BigQuiet
import Derived.Test.YthfjgpjcepmnmaaGreatZ18
import Derived.Test.YthfjgpjcepmnmaaGreatZ17
namespace Go.Proofs.YthfjgpjcepmnmaaGreat
open Go.RowKit Go.Shelf
theorem bgE_no {r n:Int} {cd:Int→Hd×List Pt} {ts:List Th} {fs:List Fe} {k:Int} (h:r≠0):bgE r n cd ts fs k=r:=by
 unfold bgE
 rw[lkE_no h,if_neg h]
end Go.Proofs.YthfjgpjcepmnmaaGreat
namespace Go.Proofs.YthfjgpjcepmnmaaGreat
open Go.RowKit

open Go.Shelf
theorem Tryz.linfoT:(Tryz.prog.info? 100).map (fun i=>(i.zero,i.size,i.bytes))=some (some (.agg #[.int .i64 0,.int .i64 0,.int .u8 0,.int .i64 0,.int .i64 0,.int .i64 0,.int .i64 0,.int .i64 0,.int .i64 0,.int .i64 0,.bool false]),11,88):=by kernel_rfl




end Go.Proofs.YthfjgpjcepmnmaaGreat
namespace Go.Proofs.YthfjgpjcepmnmaaGreat
set_option maxRecDepth 100000
open Go.ChangeShapes Go.WideShapes Go.ChangeAt Go.RowKit Go.Deep
theorem thing_cells {H:Type} {enc:TypeId×Value→H} {w:World} {base:Nat} {sp:Nat→Bool} {held:Bool} {fuel:Nat} {l:List Value} {x:DataW H×List MemPlace} (hsz:l.length=11) (hf:DataW.trod enc Tryz.prog w base sp held fuel 100 l=some x):∃ t:Th,l=thc t:=by
 obtain⟨c0,c1,c2,c3,c4,c5,c6,c7,c8,c9,c10,rfl⟩:∃ c0 c1 c2 c3 c4 c5 c6 c7 c8 c9 c10,l=[c0,c1,c2,c3,c4,c5,c6,c7,c8,c9,c10]:=by
  match l,(show l.length=11 from hsz) with
  | [c0,c1,c2,c3,c4,c5,c6,c7,c8,c9,c10],_=>exact⟨c0,c1,c2,c3,c4,c5,c6,c7,c8,c9,c10,rfl⟩
 obtain⟨xs,n,_,hx,_,hlen,hfl⟩:=DataW.trod_struct Tryz.underlying100 hf
 match xs,hlen with
 | [y0,y1,y2,y3,y4,y5,y6,y7],_ =>
  have t0:DataW.trod enc Tryz.prog w base sp held n 3 (([c0,c1,c2,c3,c4,c5,c6,c7,c8,c9,c10].drop 0).take (Tryz.prog.cellsOf 3))=some y0:=hfl 0 _ rfl
  rw[cOfI] at t0
  have t1:DataW.trod enc Tryz.prog w base sp held n 3 (([c0,c1,c2,c3,c4,c5,c6,c7,c8,c9,c10].drop 1).take (Tryz.prog.cellsOf 3))=some y1:=hfl 1 _ rfl
  rw[cOfI] at t1
  have t2:DataW.trod enc Tryz.prog w base sp held n 97 (([c0,c1,c2,c3,c4,c5,c6,c7,c8,c9,c10].drop 2).take (Tryz.prog.cellsOf 97))=some y2:=hfl 2 _ rfl
  rw[cOfPl] at t2
  have t3:DataW.trod enc Tryz.prog w base sp held n 3 (([c0,c1,c2,c3,c4,c5,c6,c7,c8,c9,c10].drop 3).take (Tryz.prog.cellsOf 3))=some y3:=hfl 3 _ rfl
  rw[cOfI] at t3
  have t4:DataW.trod enc Tryz.prog w base sp held n 3 (([c0,c1,c2,c3,c4,c5,c6,c7,c8,c9,c10].drop 4).take (Tryz.prog.cellsOf 3))=some y4:=hfl 4 _ rfl
  rw[cOfI] at t4
  have t5:DataW.trod enc Tryz.prog w base sp held n 98 (([c0,c1,c2,c3,c4,c5,c6,c7,c8,c9,c10].drop 5).take (Tryz.prog.cellsOf 98))=some y5:=hfl 5 _ rfl
  rw[cOf4] at t5
  have t6:DataW.trod enc Tryz.prog w base sp held n 3 (([c0,c1,c2,c3,c4,c5,c6,c7,c8,c9,c10].drop 9).take (Tryz.prog.cellsOf 3))=some y6:=hfl 6 _ rfl
  rw[cOfI] at t6
  have t7:DataW.trod enc Tryz.prog w base sp held n 4 (([c0,c1,c2,c3,c4,c5,c6,c7,c8,c9,c10].drop 10).take (Tryz.prog.cellsOf 4))=some y7:=hfl 7 _ rfl
  rw[cOfB] at t7
  obtain⟨z0,e0,_,w0⟩:=DataW.trod_int Tryz.underlying3 (cs:=[c0]) t0
  simp only[List.cons.injEq,and_true] at e0
  subst e0
  obtain⟨z1,e1,_,w1⟩:=DataW.trod_int Tryz.underlying3 (cs:=[c1]) t1
  simp only[List.cons.injEq,and_true] at e1
  subst e1
  obtain⟨z2,e2,_,w2⟩:=DataW.trod_int Tryz.underlying97 (cs:=[c2]) t2
  simp only[List.cons.injEq,and_true] at e2
  subst e2
  obtain⟨z3,e3,_,w3⟩:=DataW.trod_int Tryz.underlying3 (cs:=[c3]) t3
  simp only[List.cons.injEq,and_true] at e3
  subst e3
  obtain⟨z4,e4,_,w4⟩:=DataW.trod_int Tryz.underlying3 (cs:=[c4]) t4
  simp only[List.cons.injEq,and_true] at e4
  subst e4
  obtain⟨z5,z6,z7,z8,rfl,rfl,rfl,rfl,w5,w6,w7,w8⟩:=four_cells (c0:=c5) (c1:=c6) (c2:=c7) (c3:=c8) t5
  obtain⟨z9,e9,_,w9⟩:=DataW.trod_int Tryz.underlying3 (cs:=[c9]) t6
  simp only[List.cons.injEq,and_true] at e9
  subst e9
  obtain⟨z10,e10,_⟩:=DataW.trod_bool Tryz.underlying4 (cs:=[c10]) t7
  simp only[List.cons.injEq,and_true] at e10
  subst e10
  exact⟨⟨z0,z1,z2,z3,z4,z5,z6,z7,z8,z9,z10⟩,rfl⟩
theorem feature_cells {H:Type} {enc:TypeId×Value→H} {w:World} {base:Nat} {sp:Nat→Bool} {held:Bool} {fuel:Nat} {l:List Value} {x:DataW H×List MemPlace} (hsz:l.length=5) (hf:DataW.trod enc Tryz.prog w base sp held fuel 65 l=some x):∃ f:Fe,l=fec f∧InI f.po∧InI f.he:=by
 obtain⟨c0,c1,c2,c3,c4,rfl⟩:∃ c0 c1 c2 c3 c4,l=[c0,c1,c2,c3,c4]:=by
  match l,(show l.length=5 from hsz) with
  | [c0,c1,c2,c3,c4],_=>exact⟨c0,c1,c2,c3,c4,rfl⟩
 obtain⟨xs,n,_,hx,_,hlen,hfl⟩:=DataW.trod_struct Tryz.underlying65 hf
 match xs,hlen with
 | [y0,y1,y2,y3,y4],_ =>
  have t0:DataW.trod enc Tryz.prog w base sp held n 3 (([c0,c1,c2,c3,c4].drop 0).take (Tryz.prog.cellsOf 3))=some y0:=hfl 0 _ rfl
  rw[cOfI] at t0
  have t1:DataW.trod enc Tryz.prog w base sp held n 34 (([c0,c1,c2,c3,c4].drop 1).take (Tryz.prog.cellsOf 34))=some y1:=hfl 1 _ rfl
  rw[cOfSu] at t1
  have t2:DataW.trod enc Tryz.prog w base sp held n 51 (([c0,c1,c2,c3,c4].drop 2).take (Tryz.prog.cellsOf 51))=some y2:=hfl 2 _ rfl
  rw[cOfTs] at t2
  have t3:DataW.trod enc Tryz.prog w base sp held n 3 (([c0,c1,c2,c3,c4].drop 3).take (Tryz.prog.cellsOf 3))=some y3:=hfl 3 _ rfl
  rw[cOfI] at t3
  have t4:DataW.trod enc Tryz.prog w base sp held n 3 (([c0,c1,c2,c3,c4].drop 4).take (Tryz.prog.cellsOf 3))=some y4:=hfl 4 _ rfl
  rw[cOfI] at t4
  obtain⟨z0,e0,_,w0⟩:=DataW.trod_int Tryz.underlying3 (cs:=[c0]) t0
  simp only[List.cons.injEq,and_true] at e0
  subst e0
  obtain⟨z1,e1,_,w1⟩:=DataW.trod_int Tryz.underlying34 (cs:=[c1]) t1
  simp only[List.cons.injEq,and_true] at e1
  subst e1
  obtain⟨z2,e2,_,w2⟩:=DataW.trod_int Tryz.underlying51 (cs:=[c2]) t2
  simp only[List.cons.injEq,and_true] at e2
  subst e2
  obtain⟨z3,e3,_,w3⟩:=DataW.trod_int Tryz.underlying3 (cs:=[c3]) t3
  simp only[List.cons.injEq,and_true] at e3
  subst e3
  obtain⟨z4,e4,_,w4⟩:=DataW.trod_int Tryz.underlying3 (cs:=[c4]) t4
  simp only[List.cons.injEq,and_true] at e4
  subst e4
  exact⟨⟨z0,z1,z2,z3,z4⟩,rfl,inI_of w3,inI_of w4⟩
theorem cOfTsL:Tryz.prog.cellsOf 23=1:=by kernel_rfl
theorem cOfFsL:Tryz.prog.cellsOf 24=1:=by kernel_rfl
end Go.Proofs.YthfjgpjcepmnmaaGreat
namespace Go.Proofs.YthfjgpjcepmnmaaGreat
open Go.RowKit Go.Shelf

set_option maxHeartbeats 2000000
theorem equalIn_feL (a0 a1 a2 a3 a4:Int) (w:World):(Op.equalIn 10000 65 (.agg #[.int .i64 a0,.int .u8 a1,.int .u16 a2,.int .i64 a3,.int .i64 a4]) (.agg #[.int .i64 a0,.int .u8 a1,.int .u16 a2,.int .i64 a3,.int .i64 a4])).run Tryz.prog w=.ok true w:=by
 have hS:Tryz.prog.underlying 65=some (.struct (Tryz.prog.fieldsOf 65)):=by kernel_rfl
 have hp:Tryz.prog.stoodInHeld 65=false:=by kernel_rfl
 have u3:=Tryz.underlying3
 have i3:=Tryz.isAgg3
 have z3:=Tryz.sizeOf3
 have uS:=Tryz.underlying34
 have iS:=Tryz.isAgg34
 have zS:=Tryz.sizeOf34
 have uT:=Tryz.underlying51
 have iT:=Tryz.isAgg51
 have zT:=Tryz.sizeOf51
 rw[show (10000:Nat)=9999+1 from rfl,run_equalIn_agg w 9999 65 _ _ hS hp]
 simp only[Program.fieldsOf,Tryz.underlying65]
 go_simp
theorem neq_feL (a0 a1 a2 a3 a4:Int) (w:World):(binOp .neq 65 (.agg #[.int .i64 a0,.int .u8 a1,.int .u16 a2,.int .i64 a3,.int .i64 a4]) (.agg #[.int .i64 a0,.int .u8 a1,.int .u16 a2,.int .i64 a3,.int .i64 a4])).run Tryz.prog w=.ok (.bool false) w:=by
 rw[run_neq_struct,equalIn_feL];rfl
theorem eqg_feL (op:BinOp) (x y:Operand) (xs ys:Array Value) (w:World):(eqGuard op 65 x y (.agg xs) (.agg ys)).run Tryz.prog w=.ok () w:=run_eqGuard_agg w op 65 x y xs ys (by kernel_rfl)
theorem neq_sdL (s:Sd) (w:World):(binOp .neq 40 (sdv s) (sdv s)).run Tryz.prog w=.ok (.bool false) w:=by
 rw[show sdv s=.agg (sdc s).toArray from rfl,run_neq_struct,equalIn_sd,show sames s s=true from sames_iff.2 rfl];rfl
theorem eqg_sdL (op:BinOp) (x y:Operand) (xs ys:Array Value) (w:World):(eqGuard op 40 x y (.agg xs) (.agg ys)).run Tryz.prog w=.ok () w:=run_eqGuard_agg w op 40 x y xs ys (by kernel_rfl)
end Go.Proofs.YthfjgpjcepmnmaaGreat
namespace Go.Proofs.YthfjgpjcepmnmaaGreat
set_option maxRecDepth 100000
set_option maxHeartbeats 2000000
open Go.RowKit
theorem caE_zero {p:Pl} {es:List Ent} {c:Cd} (h0:caE p es c=0):p.shut=false∧cchk c=0∧¬c.nm∈names es:=by
 unfold caE at h0
 split at h0
 ·omega
 ·rename_i hs
  split at h0
  ·exact absurd h0 (by assumption)
  ·rename_i hq
   split at h0
   ·omega
   ·rename_i hz
    exact⟨by simpa using hs,by simpa using hq,pos_no (Int.not_le.1 hz)⟩
theorem ins_names (es:List Ent) (e:Ent):(names (ins es e)).Perm (e.h.nm :: names es):=by
 induction es with
 | nil=>exact List.Perm.refl _
 | cons y r ih =>
  rw[ins_cons]
  split
  ·exact(List.Perm.cons _ ih).trans (List.Perm.swap _ _ _)
  ·exact List.Perm.refl _
theorem hp_at {es fs:List Ent} (h:es.map hp=fs.map hp) {m:Nat} {e:Ent} (he:es[m]?=some e):∃ f,fs[m]?=some f∧f.h=e.h∧f.ps=e.ps:=by
 have h1:(es.map hp)[m]?=some (hp e):=by rw[List.getElem?_map,he];rfl
 rw[h,List.getElem?_map] at h1
 cases hf:fs[m]? with
 | none=>rw[hf] at h1;cases h1
 | some f =>
  rw[hf] at h1
  injection h1 with h1
  injection h1 with h1 h2
  exact⟨f,rfl,h1,h2⟩
theorem Pr.step {ok:Nat→Prop} {w U1 U2:World} {b r:Nat} {v:Value} {es fs:List Ent} {p p':Pl} (P:Pr ok w b r v es fs p) (hb:¬ok b) (hr:¬ok r) (hne:¬b=r) (B:Book ok U1 b es p') (g1:w.grownBy U1 (some b)) (R:RJ U2 r v p') (g2:U1.grownBy U2 (some r)) (hm:MkD p') (hz:p'.nms[0]?=some ⟨#[]⟩):Pr ok U2 b r v es fs p':=by
 have nb:∀ k,ok k→some k≠some b:=fun k hk e=>by injection e with e;exact hb (e ▸ hk)
 have nr:∀ k,ok k→some k≠some r:=fun k hk e=>by injection e with e;exact hr (e ▸ hk)
 refine⟨B.keepR g2 (fun e=>by injection e with e;exact hne e) nr,R,?_,?_,(P.good.keepR g1 nb).keepR g2 nr,P.same,hm,hz⟩
 ·exact(P.rl.keepR g1 (fun k hk=>nb k (P.own k hk).1)).keepR g2 (fun k hk=>nr k (P.own k hk).1)
 ·intro k hk
  exact⟨(P.own k hk).1,Nat.lt_of_lt_of_le (P.own k hk).2 (Nat.le_trans g1.size g2.size)⟩
theorem maP_zero' {p:Pl} (h:p.nms[0]?=some ⟨#[]⟩) (m:Mk):(maP p m).nms[0]?=some ⟨#[]⟩:=by
 unfold maP
 split <;> exact h
theorem sealP_zero' {p:Pl} (h:p.nms[0]?=some ⟨#[]⟩) (es:List Ent):(sealP p es).nms[0]?=some ⟨#[]⟩:=by
 unfold sealP
 split <;> exact h
theorem sealP_mkd {p:Pl} (h:MkD p) (es:List Ent):MkD (sealP p es):=by
 unfold sealP
 split <;> exact h
theorem hp_kd {es fs:List Ent} (h:es.map hp=fs.map hp) (n:Nat):kdAt es n=kdAt fs n:=by
 unfold kdAt
 cases he:es[n]? with
 | none =>
  have h1:fs[n]?=none:=List.getElem?_eq_none (by rw[←hp_len h];exact List.getElem?_eq_none_iff.1 he)
  rw[h1]
 | some e =>
  obtain⟨f,hf,h1,_⟩:=hp_at h he
  rw[hf]
  simp only
  rw[h1]
theorem hp_call {es fs:List Ent} (h:es.map hp=fs.map hp) (x:Pt):callE es x=callE fs x:=by
 unfold callE
 rw[hp_names h,hp_kd h]
theorem hp_calls {es fs:List Ent} (h:es.map hp=fs.map hp):∀ ps,callsE es ps=callsE fs ps
 | []=>rfl
 | x :: r=>by simp only[callsE,hp_call h,hp_calls h r]
theorem hp_sealL {es fs:List Ent} (h:es.map hp=fs.map hp):∀ {a b:List Ent},a.map hp=b.map hp→sealL es a=sealL fs b
 | [],[],_=>rfl
 | [],_ :: _,e=>by simp at e
 | _ :: _,[],e=>by simp at e
 | x :: r,y :: t,e=>by
  rw[List.map_cons,List.map_cons] at e
  injection e with e1 e2
  injection e1 with _ e1
  simp only[sealL,hp_calls h,e1,hp_sealL h e2]
theorem hp_seal {es fs:List Ent} (h:es.map hp=fs.map hp) (p:Pl):sealE p es=sealE p fs∧sealP p es=sealP p fs:=by
 have h1:sealE p es=sealE p fs:=by unfold sealE;rw[hp_sealL h h]
 refine⟨h1,?_⟩
 unfold sealP
 rw[h1]
theorem plNew_mkd:MkD plNew:=⟨rfl,fun m hm=>by simp[plNew] at hm;exact Or.inl hm⟩
theorem copyCard_any (h:Hd) (v:Value) (ps:List Pt) (w:World) (hp:PsAt w v ps) (hL:Fits ps.length):Calls Tryz.prog 68 #[cv h v] w fun e w'=>∃ a c,e=.returned (cv h (.slice a ps.length c))∧POwn w' w.heap.size (.slice a ps.length c) ps∧w.grownBy w' none:=by
 have HP:Hid (PsAt w v ps):=hp
 obtain⟨nm,su,kd,co,po,he,tr,tk⟩:=h
 obtain⟨a,c,rfl⟩:=hp.form
 clear hp
 unfold cv
 simp only
 go_enter Tryz.func68,Tryz.ntmps68
 go_wp2_with fail
 refine(copy_any _ ps _ (HP.out.keep (grown_push (World.grownBy_alloc _ _ none) _)) hL.copy).mono ?_
 rintro e w1 ⟨u,rfl,o1,g1⟩
 obtain⟨a1,c1',rfl⟩:=o1.at.form
 rw[World.size_alloc,World.size_alloc] at o1
 have A2:CAt w1 w.heap.size ⟨nm,su,kd,co,po,he,tr,tk⟩ (.slice a ps.length c):=by
  refine CAt.keep ?_ g1
  exact CAt.keep (alloc_at w (ccs ⟨nm,su,kd,co,po,he,tr,tk⟩ (.slice a ps.length c)) 54) (World.grownBy_alloc _ _ none)
 have Z2:CAt w1 (w.heap.size+1) Hd.none (.slice none 0 0):=by
  refine CAt.keep ?_ g1
  have:=alloc_at (w.alloc (.cells (ccs ⟨nm,su,kd,co,po,he,tr,tk⟩ (.slice a ps.length c)) 54)) (ccs Hd.none (.slice none 0 0)) 54
  rw[World.size_alloc] at this
  exact this
 have G2:w.grownBy w1 none:=grown_trans (grown_push (World.grownBy_alloc _ _ none) _) g1
 clear g1
 obtain⟨c0,c1,c2,c3,c4,c5,c6,c7,c8⟩:=A2.cells
 obtain⟨z0,z1,z2,z3,z4,z5,z6,z7,z8⟩:=Z2.cells
 have f:=A2.free 8
 have e0:=Z2.free 0;have e1:=Z2.free 1;have e2:=Z2.free 2;have e3:=Z2.free 3;have e4:=Z2.free 4;have e5:=Z2.free 5;have e6:=Z2.free 6;have e7:=Z2.free 7;have e8:=Z2.free 8
 simp only[Hd.none] at c0 c1 c2 c3 c4 c5 c6 c7 c8 z0 z1 z2 z3 z4 z5 z6 z7 z8
 have HO:Hid (POwn w1 (w.heap.size+1+1) (.slice a1 ps.length c1') ps):=o1
 have HG:Hid (w.grownBy w1 none):=G2
 clear A2 Z2 G2 o1 HP
 go_wp2
 refine bodyPost_ret (v:=.agg #[.string nm,.int .u8 su,.int .u8 kd,.int .i64 co,.int .i64 po,.int .i64 he,.int .u16 tr,.bool tk,.slice a1 ps.length c1']) (by simp[results,Tryz.results68,go_sem,z0,z1,z2,z3,z4,z5,z6,z7,z8]) rfl ⟨a1,c1',rfl,?_,?_⟩
 ·exact((HO.out.keep (grown_set _ _ 8 _) (fun x e=>by cases e;omega)).keep (row_st9 _ (w.heap.size+1) _ _ _ _ _ _ _ _ _) (fun x e=>by cases e;omega)).big (by omega)
 ·exact grown_own (grown_own HG.out (grown_set _ _ 8 _) (fun x e=>by cases e;exact Nat.le_refl _)) (row_st9 _ (w.heap.size+1) _ _ _ _ _ _ _ _ _) (fun x e=>by cases e;omega)
theorem Pr.card {ok:Nat→Prop} {w w1 w2 w3 w4:World} {b r:Nat} {v:Value} {es fs:List Ent} {p:Pl} {h:Hd} {u u':Value} {v':Value} {ps:List Pt} {t:Int} (P:Pr ok w b r v es fs p) (hr:¬ok r) (hne:¬b=r) (hnew:∀ k,w.heap.size≤k→ok k) (g1:w.grownBy w1 none) (B2:Book ok w2 b (if t=0 then ins es ⟨h,u,ps⟩ else es) p) (g2:w1.grownBy w2 (some b)) (g3:w2.grownBy w3 none) (Q1:RJ w4 r v' p) (Q2:RL w4 v' (if t=0 then ins fs ⟨h,u',ps⟩ else fs)) (Q3:v'=v∨∀ k,v'.ownBlock=some k→w3.heap.size≤k∧k<w4.heap.size) (Q4:Good (fun k=>(ok k∧k<w3.heap.size)∨(w3.heap.size≤k∧some k≠v'.ownBlock)) w4 (if t=0 then ins fs ⟨h,u',ps⟩ else fs)) (Q5:w3.grownBy w4 (some r)):∃ fs',Pr ok w4 b r v' (if t=0 then ins es ⟨h,u,ps⟩ else es) fs' p:=by
 have nr:∀ k,ok k→some k≠some r:=fun k hk e=>by cases e;exact hr hk
 have s1:w.heap.size≤w3.heap.size:=Nat.le_trans g1.size (Nat.le_trans g2.size g3.size)
 have s2:w3.heap.size≤w4.heap.size:=Q5.size
 refine⟨_,(B2.keep g3).keepR Q5 (fun e=>by cases e;exact hne rfl) nr,Q1,Q2,?_,?_,?_,P.mkd,P.zero⟩
 ·intro k hk
  rcases Q3 with rfl | Q3
  ·have:=P.own k hk
   exact⟨this.1,by omega⟩
  ·have:=Q3 k hk
   exact⟨hnew k (by omega),this.2⟩
 ·exact Q4.mono fun k hk=>hk.elim (fun h=>h.1) (fun h=>hnew k (by omega))
 ·by_cases h0:t=0
  ·rw[if_pos h0,if_pos h0];exact hp_ins P.same _ _ _ _
  ·rw[if_neg h0,if_neg h0];exact P.same
end Go.Proofs.YthfjgpjcepmnmaaGreat
