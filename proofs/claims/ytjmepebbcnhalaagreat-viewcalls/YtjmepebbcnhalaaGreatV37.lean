import Derived.Test.YtjmepebbcnhalaaGreatV30
namespace Go.Proofs.YtjmepebbcnhalaaGreat
open Go.RowKit Go.Shelf
variable {r n k:Int} {cd:Int→Hd×List Pt} {ts:List Th} {fs:List Fe} {W w:World} {g o b base fuel:Nat} {v u v':Value} {ok:Nat→Prop} {es:List Ent} {p:Pl} {sp:Nat→Bool} {held:Bool} {h:Hd} {ps:List Pt}
theorem Ff (h:r≠0):bgE r n cd ts fs k=r:=by
 unfold bgE
 rw[mX h,if_neg h]
end Go.Proofs.YtjmepebbcnhalaaGreat
namespace Go.Proofs.YtjmepebbcnhalaaGreat
open Go.RowKit
variable {r n k:Int} {cd:Int→Hd×List Pt} {ts:List Th} {fs:List Fe} {W w:World} {g o b base fuel:Nat} {v u v':Value} {ok:Nat→Prop} {es:List Ent} {p:Pl} {sp:Nat→Bool} {held:Bool} {h:Hd} {ps:List Pt}
def tgU:Mk:=⟨1,⟨#[117,112]⟩,1,1⟩
def tgD:Mk:=⟨2,⟨#[100,111,119,110]⟩,-1,-1⟩
def tY:Pl:={ ch with mks:=ch.mks.set 1 tgU }
def yR:Pl:={ tY with mks:=tY.mks.set 2 tgD }
theorem Ef:maE ch tgU=0:=by decide +kernel
theorem xA:maE tY tgD=0:=by decide +kernel
theorem Fi:maP ch tgU=tY:=if_pos Ef
theorem Bh:maP tY tgD=yR:=if_pos xA
def jE (b:Nat) (k:Nat):Prop:=b<k
open Go.Shelf
def exC:Hd:=⟨⟨#[99,114,111,119,110]⟩,6,3,0,0,0,0,false⟩
def fW:Pt:=⟨5,15,9,1,6,0,0,⟨#[]⟩⟩
def iZ:Pt:=⟨5,11,5,0,6,0,0,⟨#[]⟩⟩
def exE:Hd:=⟨⟨#[98,101,97,114]⟩,2,1,0,2,2,0,false⟩
theorem BZ {n:Nat} {p:Pt} (h:W.heap[n]?=some (.cells #[.int .u8 p.wn,.int .u8 p.vb,.int .u8 p.wm,.int .i64 p.ct,.int .u8 p.su,.int .u8 p.tr,.int .u8 p.mr,.string p.nm] 62 (0,0))):cD W (.slice (some ⟨n,0,none⟩) 1 1) [p]:=by
 refine Or.inr ⟨⟨n,0,none⟩,1,rfl,Qj _,fun j u hu=>?_⟩
 have hb:=aa h j
 rw[fV,Nat.zero_add,hb]
 have e:dF [p]=[.int .u8 p.wn,.int .u8 p.vb,.int .u8 p.wm,.int .i64 p.ct,.int .u8 p.su,.int .u8 p.tr,.int .u8 p.mr,.string p.nm]:=rfl
 rw[e] at hu
 simpa using hu
theorem sD (h:w.cell? ⟨g,o,none⟩=some v):g<w.heap.size:=by
 by_cases hg:g<w.heap.size
 ·exact hg
 ·have:w.heap[g]?=none:=Array.getElem?_eq_none (by omega)
  simp[World.cell?,this] at h
theorem cU.oldL (h:cU ok w es):cU (fun k=>ok k∧k<w.heap.size) w es:=fun e he=>by
 obtain⟨h1,h2⟩:=h e he
 refine⟨h1,fun g o n c ev hn=>⟨h2 g o n c ev hn,?_⟩⟩
 obtain⟨x,y,hf⟩:=h1.form
 rw[hf] at ev
 injection ev with e1 e2 e3
 have h0:0<e.ps.length:=by omega
 obtain⟨g',off,cap,ev',hP⟩:=h1.part h0
 rw[hf] at ev'
 injection ev' with e1' _ _
 rw[e1] at e1'
 injection e1' with e1'
 injection e1' with e1' _ _
 subst e1'
 obtain⟨p,hp⟩:∃ p,e.ps[0]?=some p:=⟨_,Qg h0⟩
 exact sD (hP 0 p hp).c0
theorem cG.oldL (h:cG ok w b es p):cG (fun k=>ok k∧k<w.heap.size) w b es p:=⟨h.lies,h.good.oldL,h.srt,h.fine,h.may⟩
theorem Tryz.linfoT:(Tryz.prog.info? 120).map (fun i=>(i.zero,i.size,i.bytes))=some (some (.agg #[.int .i64 0,.int .i64 0,.int .u8 0,.int .i64 0,.int .i64 0,.int .i64 0,.int .i64 0,.int .i64 0,.int .i64 0,.int .i64 0,.bool false]),11,88):=by kernel_rfl




end Go.Proofs.YtjmepebbcnhalaaGreat
namespace Go.Proofs.YtjmepebbcnhalaaGreat
set_option maxRecDepth 100000
open Go.ChangeShapes Go.WideShapes Go.ChangeAt Go.RowKit Go.Deep
variable {r n k:Int} {cd:Int→Hd×List Pt} {ts:List Th} {fs:List Fe} {W w:World} {g o b base fuel:Nat} {v u v':Value} {ok:Nat→Prop} {es:List Ent} {p:Pl} {sp:Nat→Bool} {held:Bool} {h:Hd} {ps:List Pt}
theorem sc {H:Type} {enc:TypeId×Value→H} {l:List Value} {x:DataW H×List MemPlace} (hsz:l.length=11) (hf:DataW.trod enc Tryz.prog w base sp held fuel 120 l=some x):∃ t:Th,l=thc t:=by
 obtain⟨c0,c1,c2,c3,c4,c5,c6,c7,c8,c9,c10,rfl⟩:∃ c0 c1 c2 c3 c4 c5 c6 c7 c8 c9 c10,l=[c0,c1,c2,c3,c4,c5,c6,c7,c8,c9,c10]:=by
  match l,(show l.length=11 from hsz) with
  | [c0,c1,c2,c3,c4,c5,c6,c7,c8,c9,c10],_=>exact⟨c0,c1,c2,c3,c4,c5,c6,c7,c8,c9,c10,rfl⟩
 obtain⟨xs,n,_,hx,_,hlen,hfl⟩:=DataW.trod_struct Tryz.underlying120 hf
 match xs,hlen with
 | [y0,y1,y2,y3,y4,y5,y6,y7],_ =>
  have t0:DataW.trod enc Tryz.prog w base sp held n 3 (([c0,c1,c2,c3,c4,c5,c6,c7,c8,c9,c10].drop 0).take (Tryz.prog.cellsOf 3))=some y0:=hfl 0 _ rfl
  rw[zq] at t0
  have t1:DataW.trod enc Tryz.prog w base sp held n 3 (([c0,c1,c2,c3,c4,c5,c6,c7,c8,c9,c10].drop 1).take (Tryz.prog.cellsOf 3))=some y1:=hfl 1 _ rfl
  rw[zq] at t1
  have t2:DataW.trod enc Tryz.prog w base sp held n 117 (([c0,c1,c2,c3,c4,c5,c6,c7,c8,c9,c10].drop 2).take (Tryz.prog.cellsOf 117))=some y2:=hfl 2 _ rfl
  rw[FQ] at t2
  have t3:DataW.trod enc Tryz.prog w base sp held n 3 (([c0,c1,c2,c3,c4,c5,c6,c7,c8,c9,c10].drop 3).take (Tryz.prog.cellsOf 3))=some y3:=hfl 3 _ rfl
  rw[zq] at t3
  have t4:DataW.trod enc Tryz.prog w base sp held n 3 (([c0,c1,c2,c3,c4,c5,c6,c7,c8,c9,c10].drop 4).take (Tryz.prog.cellsOf 3))=some y4:=hfl 4 _ rfl
  rw[zq] at t4
  have t5:DataW.trod enc Tryz.prog w base sp held n 118 (([c0,c1,c2,c3,c4,c5,c6,c7,c8,c9,c10].drop 5).take (Tryz.prog.cellsOf 118))=some y5:=hfl 5 _ rfl
  rw[cOf4] at t5
  have t6:DataW.trod enc Tryz.prog w base sp held n 3 (([c0,c1,c2,c3,c4,c5,c6,c7,c8,c9,c10].drop 9).take (Tryz.prog.cellsOf 3))=some y6:=hfl 6 _ rfl
  rw[zq] at t6
  have t7:DataW.trod enc Tryz.prog w base sp held n 4 (([c0,c1,c2,c3,c4,c5,c6,c7,c8,c9,c10].drop 10).take (Tryz.prog.cellsOf 4))=some y7:=hfl 7 _ rfl
  rw[cOfB] at t7
  obtain⟨z0,e0,_,w0⟩:=DataW.trod_int Tryz.underlying3 (cs:=[c0]) t0
  simp only[List.cons.injEq,and_true] at e0
  subst e0
  obtain⟨z1,e1,_,w1⟩:=DataW.trod_int Tryz.underlying3 (cs:=[c1]) t1
  simp only[List.cons.injEq,and_true] at e1
  subst e1
  obtain⟨z2,e2,_,w2⟩:=DataW.trod_int Tryz.underlying117 (cs:=[c2]) t2
  simp only[List.cons.injEq,and_true] at e2
  subst e2
  obtain⟨z3,e3,_,w3⟩:=DataW.trod_int Tryz.underlying3 (cs:=[c3]) t3
  simp only[List.cons.injEq,and_true] at e3
  subst e3
  obtain⟨z4,e4,_,w4⟩:=DataW.trod_int Tryz.underlying3 (cs:=[c4]) t4
  simp only[List.cons.injEq,and_true] at e4
  subst e4
  obtain⟨z5,z6,z7,z8,rfl,rfl,rfl,rfl,w5,w6,w7,w8⟩:=uL (c0:=c5) (c1:=c6) (c2:=c7) (c3:=c8) t5
  obtain⟨z9,e9,_,w9⟩:=DataW.trod_int Tryz.underlying3 (cs:=[c9]) t6
  simp only[List.cons.injEq,and_true] at e9
  subst e9
  obtain⟨z10,e10,_⟩:=DataW.trod_bool Tryz.underlying4 (cs:=[c10]) t7
  simp only[List.cons.injEq,and_true] at e10
  subst e10
  exact⟨⟨z0,z1,z2,z3,z4,z5,z6,z7,z8,z9,z10⟩,rfl⟩
end Go.Proofs.YtjmepebbcnhalaaGreat
namespace Go.Proofs.YtjmepebbcnhalaaGreat
open Go.RowKit Go.Shelf
variable {r n k:Int} {cd:Int→Hd×List Pt} {ts:List Th} {fs:List Fe} {W w:World} {g o b base fuel:Nat} {v u v':Value} {ok:Nat→Prop} {es:List Ent} {p:Pl} {sp:Nat→Bool} {held:Bool} {h:Hd} {ps:List Pt}
theorem jh (w:World) (a b:Array Value) (s t:TypeId):((w.alloc (.cells a s)).alloc (.cells b t)).heap[w.heap.size]?=some (.cells a s (0,0)):=ag QG (ak w a s) (by simp)
set_option maxHeartbeats 2000000
theorem mc (a0 a1 a2 a3 a4:Int) (w:World):(Op.equalIn 10000 122 (.agg #[.int .i64 a0,.int .u8 a1,.int .u16 a2,.int .i64 a3,.int .i64 a4]) (.agg #[.int .i64 a0,.int .u8 a1,.int .u16 a2,.int .i64 a3,.int .i64 a4])).run Tryz.prog w=.ok true w:=by
 have hS:Tryz.prog.underlying 122=some (.struct (Tryz.prog.fieldsOf 122)):=by kernel_rfl
 have hp:Tryz.prog.stoodInHeld 122=false:=by kernel_rfl
 have u3:=Tryz.underlying3
 have i3:=Tryz.isAgg3
 have z3:=Tryz.sizeOf3
 have uS:=Tryz.underlying58
 have iS:=Tryz.isAgg58
 have zS:=Tryz.sizeOf58
 have uT:=Tryz.underlying108
 have iT:=Tryz.isAgg108
 have zT:=Tryz.sizeOf108
 rw[show (10000:Nat)=9999+1 from rfl,run_equalIn_agg w 9999 122 _ _ hS hp]
 simp only[Program.fieldsOf,Tryz.underlying122]
 go_simp
theorem xC (a0 a1 a2 a3 a4:Int) (w:World):(binOp .neq 122 (.agg #[.int .i64 a0,.int .u8 a1,.int .u16 a2,.int .i64 a3,.int .i64 a4]) (.agg #[.int .i64 a0,.int .u8 a1,.int .u16 a2,.int .i64 a3,.int .i64 a4])).run Tryz.prog w=.ok (.bool false) w:=by
 rw[run_neq_struct,mc];rfl
theorem ry (op:BinOp) (x y:Operand) (xs ys:Array Value) (w:World):(eqGuard op 122 x y (.agg xs) (.agg ys)).run Tryz.prog w=.ok () w:=run_eqGuard_agg w op 122 x y xs ys (by kernel_rfl)
theorem DH (s:Sd) (w:World):(binOp .neq 64 (sdv s) (sdv s)).run Tryz.prog w=.ok (.bool false) w:=by
 rw[show sdv s=.agg (sdc s).toArray from rfl,run_neq_struct,uw,show lO s s=true from lx.2 rfl];rfl
theorem wV (op:BinOp) (x y:Operand) (xs ys:Array Value) (w:World):(eqGuard op 64 x y (.agg xs) (.agg ys)).run Tryz.prog w=.ok () w:=run_eqGuard_agg w op 64 x y xs ys (by kernel_rfl)
end Go.Proofs.YtjmepebbcnhalaaGreat
namespace Go.Proofs.YtjmepebbcnhalaaGreat
set_option maxRecDepth 100000
set_option maxHeartbeats 2000000
open Go.RowKit
variable {r n k:Int} {cd:Int→Hd×List Pt} {ts:List Th} {fs:List Fe} {W w:World} {g o b base fuel:Nat} {v u v':Value} {ok:Nat→Prop} {es:List Ent} {p:Pl} {sp:Nat→Bool} {held:Bool} {h:Hd} {ps:List Pt}
theorem Bj {c:Cd} (h0:caE p es c=0):p.shut=false∧eI c=0∧¬c.nm∈aY es:=by
 unfold caE at h0
 split at h0
 ·omega
 ·rename_i hs
  split at h0
  ·exact absurd h0 (by assumption)
  ·rename_i hq
   split at h0
   ·omega
   ·rename_i hz
    exact⟨by simpa using hs,by simpa using hq,qZ (Int.not_le.1 hz)⟩
theorem yr (es:List Ent) (e:Ent):(aY (ins es e)).Perm (e.h.nm :: aY es):=by
 induction es with
 | nil=>exact List.Perm.refl _
 | cons y r ih =>
  rw[iL]
  split
  ·exact(List.Perm.cons _ ih).trans (List.Perm.swap _ _ _)
  ·exact List.Perm.refl _
theorem FH {fs:List Ent} (h:es.map hp=fs.map hp) {m:Nat} {e:Ent} (he:es[m]?=some e):∃ f,fs[m]?=some f∧f.h=e.h∧f.ps=e.ps:=by
 have h1:(es.map hp)[m]?=some (hp e):=by rw[List.getElem?_map,he];rfl
 rw[h,List.getElem?_map] at h1
 cases hf:fs[m]? with
 | none=>rw[hf] at h1;cases h1
 | some f =>
  rw[hf] at h1
  injection h1 with h1
  injection h1 with h1 h2
  exact⟨f,rfl,h1,h2⟩
theorem Pr.step {U1 U2:World} {r:Nat} {fs:List Ent} {p':Pl} (P:Pr ok w b r v es fs p) (hb:¬ok b) (hr:¬ok r) (hne:¬b=r) (B:cG ok U1 b es p') (g1:w.grownBy U1 (some b)) (R:RJ U2 r v p') (g2:U1.grownBy U2 (some r)) (hm:MkD p') (hz:p'.nms[0]?=some ⟨#[]⟩):Pr ok U2 b r v es fs p':=by
 have nb:∀ k,ok k→some k≠some b:=fun k hk e=>by injection e with e;exact hb (e ▸ hk)
 have nr:∀ k,ok k→some k≠some r:=fun k hk e=>by injection e with e;exact hr (e ▸ hk)
 refine⟨B.keepR g2 (fun e=>by injection e with e;exact hne e) nr,R,?_,?_,(P.good.keepR g1 nb).keepR g2 nr,P.same,hm,hz⟩
 ·exact(P.rl.keepR g1 (fun k hk=>nb k (P.own k hk).1)).keepR g2 (fun k hk=>nr k (P.own k hk).1)
 ·intro k hk
  exact⟨(P.own k hk).1,Nat.lt_of_lt_of_le (P.own k hk).2 (Ql g1.size g2.size)⟩
theorem yg (h:p.nms[0]?=some ⟨#[]⟩) (m:Mk):(maP p m).nms[0]?=some ⟨#[]⟩:=by
 unfold maP
 split <;> exact h
theorem tR (h:p.nms[0]?=some ⟨#[]⟩) (es:List Ent):(dB p es).nms[0]?=some ⟨#[]⟩:=by
 unfold dB
 split <;> exact h
theorem zF (h:MkD p) (es:List Ent):MkD (dB p es):=by
 unfold dB
 split <;> exact h
theorem Fq {fs:List Ent} (h:es.map hp=fs.map hp) (n:Nat):mx es n=mx fs n:=by
 unfold mx
 cases he:es[n]? with
 | none =>
  have h1:fs[n]?=none:=List.getElem?_eq_none (by rw[←jN h];exact List.getElem?_eq_none_iff.1 he)
  rw[h1]
 | some e =>
  obtain⟨f,hf,h1,_⟩:=FH h he
  rw[hf]
  simp only
  rw[h1]
theorem Dz {fs:List Ent} (h:es.map hp=fs.map hp) (x:Pt):eX es x=eX fs x:=by
 unfold eX
 rw[tQ h,Fq h]
theorem sY {es fs:List Ent} (h:es.map hp=fs.map hp):∀ ps,dx es ps=dx fs ps
 | []=>rfl
 | x :: r=>by simp only[dx,Dz h,sY h r]
theorem tO {es fs:List Ent} (h:es.map hp=fs.map hp):∀ {a b:List Ent},a.map hp=b.map hp→gH es a=gH fs b
 | [],[],_=>rfl
 | [],_ :: _,e=>by simp at e
 | _ :: _,[],e=>by simp at e
 | x :: r,y :: t,e=>by
  rw[List.map_cons,List.map_cons] at e
  injection e with e1 e2
  injection e1 with _ e1
  simp only[gH,sY h,e1,tO h e2]
theorem Dl {fs:List Ent} (h:es.map hp=fs.map hp) (p:Pl):fC p es=fC p fs∧dB p es=dB p fs:=by
 have h1:fC p es=fC p fs:=by unfold fC;rw[tO h h]
 refine⟨h1,?_⟩
 unfold dB
 rw[h1]
theorem yx:MkD ch:=⟨rfl,fun m hm=>by simp[ch] at hm;exact Or.inl hm⟩
theorem ra (h:Hd) (v:Value) (ps:List Pt) (w:World) (hp:cD w v ps) (hL:jz ps.length):Calls Tryz.prog 51 #[cv h v] w fun e w'=>∃ a c,e=.returned (cv h (.slice a ps.length c))∧bG w' w.heap.size (.slice a ps.length c) ps∧w.grownBy w' none:=by
 have HP:Hid (cD w v ps):=hp
 obtain⟨nm,su,kd,co,po,he,tr,tk⟩:=h
 obtain⟨a,c,rfl⟩:=hp.form
 clear hp
 unfold cv
 simp only
 go_enter Tryz.func51,Tryz.ntmps51
 go_wp2_with fail
 refine(Ad _ ps _ (HP.out.keep (al QG _)) hL.copy).mono ?_
 rintro e w1 ⟨u,rfl,o1,g1⟩
 obtain⟨a1,c1',rfl⟩:=o1.at.form
 rw[World.size_alloc,World.size_alloc] at o1
 have A2:CAt w1 w.heap.size ⟨nm,su,kd,co,po,he,tr,tk⟩ (.slice a ps.length c):=by
  refine CAt.keep ?_ g1
  exact CAt.keep (ak w (ccs ⟨nm,su,kd,co,po,he,tr,tk⟩ (.slice a ps.length c)) 111) QG
 have Z2:CAt w1 (w.heap.size+1) Hd.none (.slice none 0 0):=by
  refine CAt.keep ?_ g1
  have:=ak (w.alloc (.cells (ccs ⟨nm,su,kd,co,po,he,tr,tk⟩ (.slice a ps.length c)) 111)) (ccs Hd.none (.slice none 0 0)) 111
  rw[World.size_alloc] at this
  exact this
 have G2:w.grownBy w1 none:=ae (al QG _) g1
 clear g1
 obtain⟨c0,c1,c2,c3,c4,c5,c6,c7,c8⟩:=A2.cells
 obtain⟨z0,z1,z2,z3,z4,z5,z6,z7,z8⟩:=Z2.cells
 have f:=A2.free 8
 have e0:=Z2.free 0;have e1:=Z2.free 1;have e2:=Z2.free 2;have e3:=Z2.free 3;have e4:=Z2.free 4;have e5:=Z2.free 5;have e6:=Z2.free 6;have e7:=Z2.free 7;have e8:=Z2.free 8
 simp only[Hd.none] at c0 c1 c2 c3 c4 c5 c6 c7 c8 z0 z1 z2 z3 z4 z5 z6 z7 z8
 have HO:Hid (bG w1 (w.heap.size+1+1) (.slice a1 ps.length c1') ps):=o1
 have HG:Hid (w.grownBy w1 none):=G2
 clear A2 Z2 G2 o1 HP
 go_wp2
 refine bodyPost_ret (v:=.agg #[.string nm,.int .u8 su,.int .u8 kd,.int .i64 co,.int .i64 po,.int .i64 he,.int .u16 tr,.bool tk,.slice a1 ps.length c1']) (by simp[results,Tryz.results51,go_sem,z0,z1,z2,z3,z4,z5,z6,z7,z8]) rfl ⟨a1,c1',rfl,?_,?_⟩
 ·exact((HO.out.keep (aj _ _ 8 _) (fun x e=>by cases e;omega)).keep (gB _ (w.heap.size+1) _ _ _ _ _ _ _ _ _) (fun x e=>by cases e;omega)).big (by omega)
 ·exact ar (ar HG.out (aj _ _ 8 _) (fun x e=>by cases e;exact Qj _)) (gB _ (w.heap.size+1) _ _ _ _ _ _ _ _ _) (fun x e=>by cases e;omega)
theorem Pr.card {w1 w2 w3 w4:World} {r:Nat} {fs:List Ent} {u':Value} {t:Int} (P:Pr ok w b r v es fs p) (hr:¬ok r) (hne:¬b=r) (hnew:∀ k,w.heap.size≤k→ok k) (g1:w.grownBy w1 none) (B2:cG ok w2 b (if t=0 then ins es ⟨h,u,ps⟩ else es) p) (g2:w1.grownBy w2 (some b)) (g3:w2.grownBy w3 none) (Q1:RJ w4 r v' p) (Q2:RL w4 v' (if t=0 then ins fs ⟨h,u',ps⟩ else fs)) (Q3:v'=v∨∀ k,v'.ownBlock=some k→w3.heap.size≤k∧k<w4.heap.size) (Q4:cU (fun k=>(ok k∧k<w3.heap.size)∨(w3.heap.size≤k∧some k≠v'.ownBlock)) w4 (if t=0 then ins fs ⟨h,u',ps⟩ else fs)) (Q5:w3.grownBy w4 (some r)):∃ fs',Pr ok w4 b r v' (if t=0 then ins es ⟨h,u,ps⟩ else es) fs' p:=by
 have nr:∀ k,ok k→some k≠some r:=fun k hk e=>by cases e;exact hr hk
 have s1:w.heap.size≤w3.heap.size:=Ql g1.size (Ql g2.size g3.size)
 have s2:w3.heap.size≤w4.heap.size:=Q5.size
 refine⟨_,(B2.keep g3).keepR Q5 (fun e=>by cases e;exact hne rfl) nr,Q1,Q2,?_,?_,?_,P.mkd,P.zero⟩
 ·intro k hk
  rcases Q3 with rfl | Q3
  ·have:=P.own k hk
   exact⟨this.1,by omega⟩
  ·have:=Q3 k hk
   exact⟨hnew k (by omega),this.2⟩
 ·exact Q4.mono fun k hk=>hk.elim (fun h=>h.1) (fun h=>hnew k (by omega))
 ·by_cases h0:t=0
  ·rw[if_pos h0,if_pos h0];exact Fc P.same _ _ _ _
  ·rw[if_neg h0,if_neg h0];exact P.same
set_option maxHeartbeats 8000000
def okB (n k:Nat):Prop:=n+2≤k
theorem C9.range (c:C9 w g o h v):w.rangeAt g o (cvs h v):=fun j u hu=>by
 have hj:j<9:=(Qh hu).1
 rcases (by omega:j=0∨j=1∨j=2∨j=3∨j=4∨j=5∨j=6∨j=7∨j=8) with rfl | rfl | rfl | rfl | rfl | rfl | rfl | rfl | rfl <;> (cases hu;first | exact c.c0 | exact c.c1 | exact c.c2 | exact c.c3 | exact c.c4 | exact c.c5 | exact c.c6 | exact c.c7 | exact c.c8)
theorem M4.range {m:Mk} (c:M4 w g o m):w.rangeAt g o (mvs m):=fun j u hu=>by
 have hj:j<4:=(Qh hu).1
 rcases (by omega:j=0∨j=1∨j=2∨j=3) with rfl | rfl | rfl | rfl <;> (cases hu;first | exact c.c0 | exact c.c1 | exact c.c2 | exact c.c3)
theorem xH {fs:List Ent} (h:es.map hp=fs.map hp) {e:Ent} (he:e∈fs):∃ d∈es,d.h=e.h∧d.ps=e.ps:=by
 have:hp e∈es.map hp:=by rw[h];exact List.mem_map_of_mem he
 obtain⟨d,hd,e1⟩:=List.mem_map.1 this
 exact⟨d,hd,congrArg Prod.fst e1,congrArg Prod.snd e1⟩
def Nd (es:List Ent):Prop:=(aY es).Nodup∧∀ e∈es,(e.h.with e.ps).wf
def lG (n:Nat) (w:World) (e:Ending) (w':World):Prop:=∃ v es fs p,e=.returned (.tuple #[.pointer (some ⟨n,0,none⟩),.pointer (some ⟨n+1,0,none⟩),.bool true])∧Pr (okB n) w' n (n+1) v es fs p∧Nd es∧w.grownBy w' none
def tA (n:Nat) (W wr:World):Prop:=W.grownBy wr none∧n+2≤wr.heap.size∧∃ v es fs p,Pr (okB n) wr n (n+1) v es fs p∧Nd es
theorem tA.card {n:Nat} {w0 w1 w2 w3 w4:World} {fs:List Ent} {t:Int} {e:Ending} (g0:W.grownBy w0 none) (hW:W.heap.size≤n) (hs:n+2≤w0.heap.size) (P:Pr (okB n) w0 n (n+1) v es fs p) (hN:Nd es) (hT:(h.with ps).wf) (ht:t=caE p es (h.with ps)) (g1:w0.grownBy w1 none) (B2:cG (okB n) w2 n (if t=0 then ins es ⟨h,u,ps⟩ else es) p) (g2:w1.grownBy w2 (some n)) (g3:w2.grownBy w3 none) (Q:vR (okB n) (n+1) v p fs h ps w3 t e w4):e=.returned (.int .i64 t)∧tA n W w4:=by
 obtain⟨u',v',rfl,Q1,Q2,Q3,Q4,Q5⟩:=Q
 refine⟨rfl,?_,?_,?_⟩
 ·exact ar (ae (ar (ae g0 g1) g2 (fun x e=>by cases e;exact hW)) g3) Q5 (fun x e=>by cases e;omega)
 ·have:=g1.size;have:=g2.size;have:=g3.size;have:=Q5.size;omega
 ·obtain⟨fs2,P2⟩:=P.card (fun h=>by unfold okB at h;omega) (by omega) (fun k hk=>by unfold okB;omega) g1 B2 g2 g3 Q1 Q2 Q3 Q4 Q5
  refine⟨v',_,fs2,p,P2,?_⟩
  by_cases h0:t=0
  ·rw[if_pos h0]
   refine⟨?_,fun d hd=>?_⟩
   ·rw[(yr _ _).nodup_iff,List.nodup_cons]
    exact⟨(Bj (ht.symm.trans h0)).2.2,hN.1⟩
   ·rcases (mG es ⟨h,u,ps⟩ d).1 hd with q | q
    ·rw[q];exact hT
    ·exact hN.2 d q
  ·rw[if_neg h0];exact hN
theorem xY (vc vm:Value) (op:Bool) (cs:List Ent) (ms:List Mk) (w:World) (F:FiA w vc vm cs ms):Calls Tryz.prog 7 #[.agg #[vc,vm,.bool op]] w (lG (w.heap.size+1) w):=by
 obtain⟨ca,ck,rfl,hC⟩:=F.c
 obtain⟨ma,mk,rfl,hM⟩:=F.m
 obtain⟨W1,hW1⟩:=Qe (w.alloc (.cells #[.slice ca cs.length ck,.slice ma ms.length mk,.bool op] 25))
 have g01:w.grownBy W1 none:=by rw[hW1];exact QG
 have HG1:Hid (w.grownBy W1 none):=g01
 have HBx:Hid (W1.heap[w.heap.size]?=some (.cells #[.slice ca cs.length ck,.slice ma ms.length mk,.bool op] 25 (0,0))):=by rw[hW1];exact ak w _ _
 have HSz:Hid (W1.heap.size=w.heap.size+1):=by show _=_;rw[hW1,World.size_alloc]
 have HF:Hid (FiA W1 (.slice ca cs.length ck) (.slice ma ms.length mk) cs ms):=F.keep g01
 obtain⟨n,hn⟩:=Qe (w.heap.size+1)
 rw[←hn]
 obtain⟨f0,hf0⟩:=Qe (w.heap.size)
 have HNW:Hid (W1.heap.size=n):=by show _=_;rw[HSz.out,hn]
 have HBN:=Fs (okB n) W1
 rw[HNW.out] at HBN
 have hsc:ba cs.length:=F.cz
 have hsm:ba ms.length:=F.mz
 clear F hC hM g01 hn HSz
 go_enter Tryz.func7,Tryz.ntmps7
 go_upto_region 1 with fail
 rw[←hW1,←hf0]
 rw[←hf0] at HBx
 clear hW1 hf0
 go_wp2_with fail
 refine HBN.mono ?_
 rintro e w2 ⟨rfl,B2,g2,z2⟩
 have HRN:=Cb w2
 rw[show w2.heap.size=n+1 from z2] at HRN
 have HG2:Hid (W1.grownBy w2 none):=g2
 have HB2:Hid (cG (okB n) w2 n [] ch):=B2
 clear HBN B2 g2 z2
 go_wp2_with fail
 refine HRN.mono ?_
 rintro e w3 ⟨rfl,R3,g3,z3⟩
 have HI3:Hid (tA n W1 w3):=⟨ae HG2.out g3,by rw[z3];omega,.slice none 0 0,[],[],ch,⟨HB2.out.keep g3,R3,Or.inl ⟨rfl,rfl⟩,fun k hk=>by simp[Value.ownBlock] at hk,fun e he=>by simp at he,rfl,yx,rfl⟩,List.nodup_nil,fun e he=>by simp at he⟩
 clear HRN R3 g3 z3 HB2 HG2
 go_wp2_with fail
 go_loopw [7] (fun x wr=>∃ i:Nat,i≤cs.length∧x=.int .i64 (i:Int)∧Hid (tA n W1 wr)) (fun x _=>cs.length - (intOf x).toNat)
 case atStart=>exact⟨0,Q0 _,rfl,HI3⟩
 case round =>
  obtain⟨i,hi,rfl,HI⟩:=hrel
  clear HI3
  have x0:wr.cell? ⟨f0,0,none⟩=some (.slice ca cs.length ck):=HI.out.1.cell (aa HBx.out 0) (by simp)
  rcases (show i=cs.length∨i<cs.length from by omega) with e | hlt
  ·have hlt':¬(i:Int)<(cs.length:Int):=by omega
   have hlt2:¬i<cs.length:=by omega
   clear e hi
   obtain⟨wz,hwz⟩:=Qe (wr)
   subst hwz
   go_wp2_with fail
   clear x0
   go_loopw [8] (fun x wr=>∃ i:Nat,i≤ms.length∧x=.int .i64 (i:Int)∧Hid (tA n W1 wr)) (fun x _=>ms.length - (intOf x).toNat)
   case atStart=>exact⟨0,Q0 _,rfl,HI⟩
   case round =>
    obtain⟨j,hj,rfl,HJ⟩:=hrel
    clear HI
    have x1:wr.cell? ⟨f0,1,none⟩=some (.slice ma ms.length mk):=HJ.out.1.cell (aa HBx.out 1) (by simp)
    rcases (show j=ms.length∨j<ms.length from by omega) with e | hlt3
    ·have hlt3':¬(j:Int)<(ms.length:Int):=by omega
     have hlt3n:¬j<ms.length:=by omega
     have x2:wr.cell? ⟨f0,2,none⟩=some (.bool op):=HJ.out.1.cell (aa HBx.out 2) (by simp)
     obtain⟨gj,sj,v,es,fs,p,P,hNd⟩:=HJ.out
     have HNd:Hid (Nd es):=hNd
     have HP:Hid (Pr (okB n) wr n (n+1) v es fs p):=P
     have HGj:Hid (W1.grownBy wr none∧n+2≤wr.heap.size):=⟨gj,sj⟩
     clear e hj gj sj P HJ hNd
     have fin:∀ (W:World) (v:Value) (es fs:List Ent) (p:Pl),Pr (okB n) W n (n+1) v es fs p→Nd es→W1.grownBy W none→lG n w (.returned (.tuple #[.pointer (some ⟨n,0,none⟩),.pointer (some ⟨n+1,0,none⟩),.bool true])) W:=fun W v es fs p P hN g=>⟨v,es,fs,p,rfl,P,hN,ae HG1.out g⟩
     have HFin:Hid (∀ (W:World) (v:Value) (es fs:List Ent) (p:Pl),Pr (okB n) W n (n+1) v es fs p→Nd es→W1.grownBy W none→lG n w (.returned (.tuple #[.pointer (some ⟨n,0,none⟩),.pointer (some ⟨n+1,0,none⟩),.bool true])) W):=fin
     clear fin
     cases op with
     | true =>
      have HS1:=jD n es.length p wr HP.out.book.lies.flags
      have HS2:=gC (n+1) v p wr HP.out.rj
      obtain⟨sh,hsh⟩:=Qe (p.shut)
      rw[←hsh] at HS1 HS2
      clear hsh
      go_wp2_with fail
      refine HS1.mono ?_
      rintro e w4 ⟨rfl,hw⟩
      obtain rfl:wr=w4:=hw.symm
      go_wp2_with fail
      refine HS2.mono ?_
      rintro e w4 ⟨rfl,hw⟩
      obtain rfl:wr=w4:=hw.symm
      clear HS1 HS2
      have HE:=HFin.out wr v es fs p HP.out HNd.out HGj.out.1
      have HHE:Hid (lG n w (.returned (.tuple #[.pointer (some ⟨n,0,none⟩),.pointer (some ⟨n+1,0,none⟩),.bool true])) wr):=HE
      clear HE HFin HP
      cases sh with
      | true =>
       go_wp2
       go_ret3
       exact HHE.out
      | false =>
       go_wp2
       go_ret3
       exact HHE.out
     | false =>
      have HSe:=Ek (okB n) n es p wr HP.out.book (fun h=>by unfold okB at h;omega)
      go_wp2_with fail
      refine HSe.mono ?_
      rintro e w4 ⟨rfl,B4,g4⟩
      have RJ4:=HP.out.rj.keepR g4 (fun e=>by injection e with e;omega)
      have RL4:=HP.out.rl.keepR g4 (fun k hk e=>by cases e;have:=(HP.out.own _ hk).1;unfold okB at this;omega)
      have GD4:=HP.out.good.keepR g4 (fun k hk e=>by cases e;unfold okB at hk;omega)
      have HRs:=xX (okB n) (n+1) v p fs w4 RJ4 RL4 (by rw[←jN HP.out.same];exact HP.out.book.lies.len) GD4 (fun e he=>by obtain⟨d,hd,_,h2⟩:=xH HP.out.same he;rw[←h2];exact HP.out.book.parts d hd)
      have hse:=Dl HP.out.same p
      rw[←hse.1,←hse.2] at HRs
      have HB4:Hid (cG (okB n) w4 n es (dB p es)):=B4
      have HG4:Hid (wr.grownBy w4 (some n)):=g4
      obtain⟨se,hse2⟩:=Qe (fC p es)
      rw[←hse2] at HRs ⊢
      clear hse2 hse RJ4 RL4 GD4 B4 g4 HSe
      go_wp2_with fail
      refine HRs.mono ?_
      rintro e w5 ⟨rfl,R5,g5⟩
      have HP5:Hid (Pr (okB n) w5 n (n+1) v es fs (dB p es)):=HP.out.step (fun h=>by unfold okB at h;omega) (fun h=>by unfold okB at h;omega) (by omega) HB4.out HG4.out R5 g5 (zF HP.out.mkd es) (tR HP.out.zero es)
      have HG5:Hid (W1.grownBy w5 none):=ar (ar HGj.out.1 HG4.out (fun x e=>by cases e;rw[HNW.out];exact Qj _)) g5 (fun x e=>by cases e;rw[HNW.out];omega)
      obtain⟨p2,hp2⟩:=Qe (dB p es)
      rw[←hp2] at HP5
      have HS1:=jD n es.length p2 w5 HP5.out.book.lies.flags
      have HS2:=gC (n+1) v p2 w5 HP5.out.rj
      obtain⟨sh,hsh⟩:=Qe (p2.shut)
      rw[←hsh] at HS1 HS2
      clear hsh HRs R5 g5 HB4 HG4 hp2
      go_wp2_with fail
      refine HS1.mono ?_
      rintro e w6 ⟨rfl,hw⟩
      obtain rfl:w5=w6:=hw.symm
      go_wp2_with fail
      refine HS2.mono ?_
      rintro e w6 ⟨rfl,hw⟩
      obtain rfl:w5=w6:=hw.symm
      clear HS1 HS2
      have HE:=HFin.out w5 v es fs p2 HP5.out HNd.out HG5.out
      have HHE:Hid (lG n w (.returned (.tuple #[.pointer (some ⟨n,0,none⟩),.pointer (some ⟨n+1,0,none⟩),.bool true])) w5):=HE
      clear HE HFin HP HP5
      cases sh with
      | true =>
       go_wp2
       go_ret3
       exact HHE.out
      | false =>
       go_wp2
       go_ret3
       exact HHE.out
    ·have hlt3':(j:Int)<(ms.length:Int):=by omega
     have hj0:(0:Int)≤(j:Int):=by omega
     obtain⟨mm,hmm⟩:∃ mm,ms[j]?=some mm:=⟨_,Qg hlt3⟩
     obtain⟨ma',mk',hm1,hm2⟩:=HF.out.m
     obtain⟨gm,om,ea,hMA⟩:=hm2 (by omega)
     injection hm1 with hm1a _ hm1b
     rw[←hm1a] at ea
     subst ea
     have HMM:Hid (W1.rangeAt gm (om+j*4) (mvs mm)):=(hMA j mm hmm).range
     have HMr:Hid (0≤mm.mi∧mm.mi≤255):=HF.out.mr mm (Qm hmm)
     obtain⟨gj,sj,v,es,fs,p,P,hNd⟩:=HJ.out
     have HNd:Hid (Nd es):=hNd
     have HP:Hid (Pr (okB n) wr n (n+1) v es fs p):=P
     have HGj:Hid (W1.grownBy wr none∧n+2≤wr.heap.size):=⟨gj,sj⟩
     have H0:W1.grownBy wr.drew none:=ae gj (ai _)
     have X1:Hid (W1.cell? ⟨f0,1,none⟩=some (.slice (some ⟨gm,om,none⟩) ms.length mk)):=aa HBx.out 1
     obtain⟨mi,mnm,mpo,mhe⟩:=mm
     clear hmm hm2 hMA hm1a hm1b HJ gj sj P hNd ma' mk'
     go_upto_region 10 with fail
     refine wp_region_held_drew (S:=fun w'=>W1.grownBy w' none) (by kernel_rfl) H0 (fun hHeld=>?_)
     refine QZ 0 rfl ?_
     go_frame
     refine QZ 1 rfl ?_
     go_frame
     refine QT 2 rfl (by intro w0 hSw;have d1:=hSw.cell X1.out (by simp);go_simp;try with_reducible rfl) ?_
     go_frame
     refine QZ 3 rfl ?_
     go_frame
     refine QZ 4 rfl ?_
     go_frame
     refine wpAnyH_take (i:=5) (v:=.agg #[.int .u8 mi,.string mnm,.int .i64 mpo,.int .i64 mhe]) rfl (by kernel_rfl) (by kernel_rfl) (by kernel_rfl) (fun _ _ _ h=>h) (yieldsIf_load_mid (by rfl) 115 (.tmp 48) rfl gm (om+j*4) rfl (mvs ⟨mi,mnm,mpo,mhe⟩) _ (fun w0 hSw=>fun k u hu=>hSw.cell (HMM.out k u hu) (by simp)) Tryz.underlying115 rfl (by kernel_rfl)) (by assumption) ?_
     simp only[QA,QB,QC]
     go_frame
     refine QZ 7 rfl ?_
     go_frame
     refine QZ 8 rfl ?_
     go_frame
     refine QT 9 rfl (by intro w0 hSw;have d1:=hSw.cell X1.out (by simp);go_simp;try with_reducible rfl) ?_
     go_frame
     refine QZ 10 rfl ?_
     go_frame
     refine QZ 11 rfl ?_
     go_frame
     refine wpAnyH_take (i:=12) (v:=.agg #[.int .u8 mi,.string mnm,.int .i64 mpo,.int .i64 mhe]) rfl (by kernel_rfl) (by kernel_rfl) (by kernel_rfl) (fun _ _ _ h=>h) (yieldsIf_load_mid (by rfl) 115 (.tmp 55) rfl gm (om+j*4) rfl (mvs ⟨mi,mnm,mpo,mhe⟩) _ (fun w0 hSw=>fun k u hu=>hSw.cell (HMM.out k u hu) (by simp)) Tryz.underlying115 rfl (by kernel_rfl)) (by assumption) ?_
     simp only[QA,QB,QC]
     go_frame
     have HBm:=BY (okB n) n es p ⟨mi,mnm,mpo,mhe⟩ wr.drew (HP.out.book.keep (ai _)) (fun h=>by unfold okB at h;omega)
     unfold mv at HBm
     obtain⟨me,hme⟩:=Qe (maE p ⟨mi,mnm,mpo,mhe⟩)
     rw[←hme] at HBm
     have HmE:Hid (me=maE p ⟨mi,mnm,mpo,mhe⟩):=hme
     clear hme
     refine QR 6 rfl (fun K hK=>?_)
     go_simp
     go_at_call 53
     refine(HBm).mono ?_
     rintro e w4 ⟨rfl,B4,g4⟩
     have HB4:Hid (cG (okB n) w4 n es (maP p ⟨mi,mnm,mpo,mhe⟩)):=B4
     have HG4:Hid (wr.grownBy w4 (some n)):=aW (ai _) g4
     have HK4:Hid (W1.grownBy w4 none):=ar H0 g4 (fun x e=>by cases e;rw[HNW.out];exact Qj _)
     clear B4 g4
     refine hK.out _ _ (HK4.out) (fun hHeld2=>?_)
     clear hK K
     (try go_frame)
     have HRm:=yz (n+1) v p ⟨mi,mnm,mpo,mhe⟩ w4 (HP.out.rj.keepR HG4.out (fun e=>by injection e with e;omega)) HMr.out HP.out.mkd
     unfold mv at HRm
     rw[←HmE.out] at HRm
     refine QR 13 rfl (fun K hK=>?_)
     go_simp
     go_at_call 54
     refine(HRm).mono ?_
     rintro e w5 ⟨rfl,R5,g5⟩
     have HI5:Hid (tA n W1 w5):=⟨ar HK4.out g5 (fun x e=>by cases e;rw[HNW.out];omega),by have h1:=HGj.out.2;have h2:=HG4.out.size;have h3:=g5.size;omega,v,es,fs,_,HP.out.step (fun h=>by unfold okB at h;omega) (fun h=>by unfold okB at h;omega) (by omega) HB4.out HG4.out R5 g5 (D9 HP.out.mkd _) (yg HP.out.zero _),HNd.out⟩
     clear R5 g5
     refine hK.out _ _ (HI5.out.1) (fun hHeld2=>?_)
     clear hK K
     (try go_frame)
     refine QZ 14 rfl ?_
     go_frame
     refine QD ?_
     have hne:(me != me)=false:=by simp
     clear HBm HRm
     go_wp2_with fail
     go_roundw
     case rel=>exact⟨j+1,hlt3,by first | rfl | (rw[hsm.wrap hlt3];rfl),HI5⟩
     case measure=>first | exact aA hlt3 | (rw[hsm.wrap hlt3];exact aA hlt3)
  ·have hlt':(i:Int)<(cs.length:Int):=by omega
   have hi0:(0:Int)≤(i:Int):=by omega
   obtain⟨en,hen⟩:∃ en,cs[i]?=some en:=⟨_,Qg hlt⟩
   obtain⟨ca',ck',hc1,hc2⟩:=HF.out.c
   obtain⟨gc,oc,ea,hEA⟩:=hc2 (by omega)
   injection hc1 with hc1a _ hc1b
   rw[←hc1a] at ea
   subst ea
   have HCR:Hid (W1.rangeAt gc (oc+i*9) (cvs en.h en.v)):=(hEA i en hen).range
   have HPs:Hid (cD W1 en.v en.ps∧jz en.ps.length∧(en.h.with en.ps).wf):=HF.out.ps en (Qm hen)
   obtain⟨gj,sj,v,es,fs,p,P,hNd⟩:=HI.out
   have HNd:Hid (Nd es):=hNd
   have HP:Hid (Pr (okB n) wr n (n+1) v es fs p):=P
   have HGj:Hid (W1.grownBy wr none∧n+2≤wr.heap.size):=⟨gj,sj⟩
   have H0:W1.grownBy wr.drew none:=ae gj (ai _)
   have X0:Hid (W1.cell? ⟨f0,0,none⟩=some (.slice (some ⟨gc,oc,none⟩) cs.length ck)):=aa HBx.out 0
   obtain⟨⟨nm,su,kd,co,po,he,tr,tk⟩,ev,eps⟩:=en
   obtain⟨eva,evc,hev⟩:=HPs.out.1.form
   simp only at hev
   subst hev
   have HCp:=fun (W:World) (g:W1.grownBy W none)=>ra ⟨nm,su,kd,co,po,he,tr,tk⟩ (.slice eva eps.length evc) eps W (HPs.out.1.keep g) HPs.out.2.1
   unfold cv at HCp
   simp only at HCp
   clear hen hc2 hEA hc1a hc1b HI gj sj P hNd ca' ck'
   go_upto_region 5 with fail
   refine wp_region_held_drew (S:=fun w'=>W1.grownBy w' none) (by kernel_rfl) H0 (fun hHeld=>?_)
   refine QZ 0 rfl ?_
   go_frame
   refine QZ 1 rfl ?_
   go_frame
   refine QT 2 rfl (by intro w0 hSw;have d1:=hSw.cell X0.out (by simp);go_simp;try with_reducible rfl) ?_
   go_frame
   refine QZ 3 rfl ?_
   go_frame
   refine QZ 4 rfl ?_
   go_frame
   refine wpAnyH_take (i:=5) (v:=.agg #[.string nm,.int .u8 su,.int .u8 kd,.int .i64 co,.int .i64 po,.int .i64 he,.int .u16 tr,.bool tk,.slice eva eps.length evc]) rfl (by kernel_rfl) (by kernel_rfl) (by kernel_rfl) (fun _ _ _ h=>h) (yieldsIf_load_mid (by rfl) 111 (.tmp 22) rfl gc (oc+i*9) rfl (cvs ⟨nm,su,kd,co,po,he,tr,tk⟩ (.slice eva eps.length evc)) _ (fun w0 hSw=>fun k u hu=>hSw.cell (HCR.out k u hu) (by simp)) Tryz.underlying111 rfl (by kernel_rfl)) (by assumption) ?_
   simp only[QA,QB,QC]
   go_frame
   refine QZ 8 rfl ?_
   go_frame
   refine QZ 9 rfl ?_
   go_frame
   refine QT 10 rfl (by intro w0 hSw;have d1:=hSw.cell X0.out (by simp);go_simp;try with_reducible rfl) ?_
   go_frame
   refine QZ 11 rfl ?_
   go_frame
   refine QZ 12 rfl ?_
   go_frame
   refine wpAnyH_take (i:=13) (v:=.agg #[.string nm,.int .u8 su,.int .u8 kd,.int .i64 co,.int .i64 po,.int .i64 he,.int .u16 tr,.bool tk,.slice eva eps.length evc]) rfl (by kernel_rfl) (by kernel_rfl) (by kernel_rfl) (fun _ _ _ h=>h) (yieldsIf_load_mid (by rfl) 111 (.tmp 30) rfl gc (oc+i*9) rfl (cvs ⟨nm,su,kd,co,po,he,tr,tk⟩ (.slice eva eps.length evc)) _ (fun w0 hSw=>fun k u hu=>hSw.cell (HCR.out k u hu) (by simp)) Tryz.underlying111 rfl (by kernel_rfl)) (by assumption) ?_
   simp only[QA,QB,QC]
   go_frame
   refine QR 6 rfl (fun K hK=>?_)
   go_simp
   go_at_call 51
   refine(HCp _ hHeld).mono ?_
   rintro e w4 ⟨a4,c4,rfl,o4,g4⟩
   have HO4:Hid (bG w4 wr.drew.heap.size (.slice a4 eps.length c4) eps):=o4
   have HG4:Hid (wr.grownBy w4 none):=ae (ai _) g4
   have HK4:Hid (W1.grownBy w4 none):=ae H0 g4
   clear o4 g4
   refine hK.out _ _ (HK4.out) (fun hHeld2=>?_)
   clear hK K
   (try go_frame)
   have HCa:=xk (okB n) n es p ⟨nm,su,kd,co,po,he,tr,tk⟩ (.slice a4 eps.length c4) eps w4 (HP.out.book.keep HG4.out) (fun h=>by unfold okB at h;omega) (fun k hk=>by unfold okB;have h1:=HGj.out.2;have h2:=HG4.out.size;omega) HO4.out.at HPs.out.2.1.small
   have hcaE:=Ep HP.out.same p ((⟨nm,su,kd,co,po,he,tr,tk⟩:Hd).with eps)
   obtain⟨ce,hce⟩:=Qe (caE p es ((⟨nm,su,kd,co,po,he,tr,tk⟩:Hd).with eps))
   rw[←hce] at HCa hcaE
   have HceE:Hid (ce=caE p es ((⟨nm,su,kd,co,po,he,tr,tk⟩:Hd).with eps)):=hce
   have HcaE:Hid (ce=caE p fs ((⟨nm,su,kd,co,po,he,tr,tk⟩:Hd).with eps)):=hcaE
   clear hcaE
   unfold cv at HCa
   simp only at HCa
   clear hce
   refine QR 7 rfl (fun K hK=>?_)
   go_simp
   go_at_call 50
   refine(HCa).mono ?_
   rintro e w5 ⟨u5,rfl,B5,g5⟩
   have HB5:Hid (cG (okB n) w5 n (if ce=0 then ins es ⟨⟨nm,su,kd,co,po,he,tr,tk⟩,u5,eps⟩ else es) p):=B5
   have HG5:Hid (w4.grownBy w5 (some n)):=g5
   have HK5:Hid (W1.grownBy w5 none):=ar HK4.out g5 (fun x e=>by cases e;rw[HNW.out];exact Qj _)
   clear B5 g5
   refine hK.out _ _ (HK5.out) (fun hHeld2=>?_)
   clear hK K
   (try go_frame)
   refine QR 14 rfl (fun K hK=>?_)
   go_simp
   go_at_call 51
   refine(HCp _ HK5.out).mono ?_
   rintro e w6 ⟨a6,c6,rfl,o6,g6⟩
   have HO6:Hid (bG w6 w5.heap.size (.slice a6 eps.length c6) eps):=o6
   have HG6:Hid (w5.grownBy w6 none):=g6
   have HK6:Hid (W1.grownBy w6 none):=ae HK5.out g6
   clear o6 g6
   refine hK.out _ _ (HK6.out) (fun hHeld2=>?_)
   clear hK K
   (try go_frame)
   have HRc:=yt (okB n) (n+1) v p fs ⟨nm,su,kd,co,po,he,tr,tk⟩ (.slice a6 eps.length c6) eps w6 (((HP.out.rj.keep HG4.out).keepR HG5.out (fun e=>by injection e with e;omega)).keep HG6.out) (((HP.out.rl.keep HG4.out).keepR HG5.out (fun k hk e=>by cases e;have:=(HP.out.own _ hk).1;unfold okB at this;omega)).keep HG6.out) (by rw[←jN HP.out.same];exact HP.out.book.lies.len) (((HP.out.good.keep HG4.out).keepR HG5.out (fun k hk e=>by cases e;unfold okB at hk;omega)).keep HG6.out) (fun h=>by unfold okB at h;omega) HO6.out.at HPs.out.2.1.small HPs.out.2.2
   rw[←HcaE.out] at HRc
   unfold cv at HRc
   simp only at HRc
   refine QR 15 rfl (fun K hK=>?_)
   go_simp
   go_at_call 52
   refine HRc.mono ?_
   intro e w7 Q7
   obtain⟨he7,hI7⟩:=tA.card HGj.out.1 (by rw[HNW.out];exact Qj _) HGj.out.2 HP.out HNd.out HPs.out.2.2 HceE.out HG4.out HB5.out HG5.out HG6.out Q7
   subst he7
   have HI7:Hid (tA n W1 w7):=hI7
   clear hI7 Q7
   refine hK.out _ _ (HI7.out.1) (fun hHeld2=>?_)
   clear hK K
   (try go_frame)
   refine QZ 16 rfl ?_
   go_frame
   refine QD ?_
   have hne:(ce != ce)=false:=by simp
   clear HCp HCa HRc
   go_wp2_with fail
   go_roundw
   case rel=>exact⟨i+1,hlt,by first | rfl | (rw[hsc.wrap hlt];rfl),HI7⟩
   case measure=>first | exact aA hlt | (rw[hsc.wrap hlt];exact aA hlt)
end Go.Proofs.YtjmepebbcnhalaaGreat
