import Derived.Test.YtjmepebbcnhalaaGreatZ22
namespace Go.Proofs.YtjmepebbcnhalaaGreat
open Tryz
open Go.RowKit Go.Shelf
variable {r n:Int} {cd:Int→Hd×List Pt} {ts:List Th} {fs:List Fe} {w:World} {b i base fuel:Nat} {T:TypeId} {cs:Array Value} {u v:Value} {sp:Nat→Bool} {held:Bool} {p:Pl} {es:List Ent} {ok:Nat→Prop} {ps:List Pt}
theorem Gn {k:Int} (h:r≠0):bgE r n cd ts fs k=r:=by
 unfold bgE;rw[vJ h,if_neg h]
end Go.Proofs.YtjmepebbcnhalaaGreat
namespace Go.Proofs.YtjmepebbcnhalaaGreat
open Tryz
open Go.RowKit
variable {r n:Int} {cd:Int→Hd×List Pt} {ts:List Th} {fs:List Fe} {w:World} {b i base fuel:Nat} {T:TypeId} {cs:Array Value} {u v:Value} {sp:Nat→Bool} {held:Bool} {p:Pl} {es:List Ent} {ok:Nat→Prop} {ps:List Pt}

open Go.Shelf
theorem iJ {cs':Array Value} (h:w.heap[b]?=some (.cells cs T (0,0))) (e:cs.setIfInBounds i u=cs'):(w.setCell ⟨b,i,none⟩ u).heap[b]?=some (.cells cs' T (0,0)):=by rw[←e];exact au h i u
theorem linfoT:(prog.info? 120).map (fun i=>(i.zero,i.size,i.bytes))=some (some (.agg #[.int .i64 0,.int .i64 0,.int .u8 0,.int .i64 0,.int .i64 0,.int .i64 0,.int .i64 0,.int .i64 0,.int .i64 0,.int .i64 0,.bool false]),11,88):=by kernel_rfl




end Go.Proofs.YtjmepebbcnhalaaGreat
namespace Go.Proofs.YtjmepebbcnhalaaGreat
open Tryz
set_option maxRecDepth 100000
open Go.ChangeShapes Go.WideShapes Go.ChangeAt Go.RowKit Go.Deep
variable {r n:Int} {cd:Int→Hd×List Pt} {ts:List Th} {fs:List Fe} {w:World} {b i base fuel:Nat} {T:TypeId} {cs:Array Value} {u v:Value} {sp:Nat→Bool} {held:Bool} {p:Pl} {es:List Ent} {ok:Nat→Prop} {ps:List Pt}
theorem uj {H:Type} {enc:TypeId×Value→H} {l:List Value} {x:DataW H×List MemPlace} (hsz:l.length=11) (hf:DataW.trod enc prog w base sp held fuel 120 l=some x):∃ t:Th,l=thc t:=by
 obtain⟨c0,c1,c2,c3,c4,c5,c6,c7,c8,c9,c10,rfl⟩:∃ c0 c1 c2 c3 c4 c5 c6 c7 c8 c9 c10,l=[c0,c1,c2,c3,c4,c5,c6,c7,c8,c9,c10]:=by
  match l,(show l.length=11 from hsz) with
  | [c0,c1,c2,c3,c4,c5,c6,c7,c8,c9,c10],_=>exact⟨c0,c1,c2,c3,c4,c5,c6,c7,c8,c9,c10,rfl⟩
 obtain⟨xs,n,_,hx,_,hlen,hfl⟩:=Qb9 underlying120 hf
 match xs,hlen with
 | [y0,y1,y2,y3,y4,y5,y6,y7],_ =>
  have t0:DataW.trod enc prog w base sp held n 3 (([c0,c1,c2,c3,c4,c5,c6,c7,c8,c9,c10].drop 0).take (prog.cellsOf 3))=some y0:=hfl 0 _ rfl;rw[si] at t0;have t1:DataW.trod enc prog w base sp held n 3 (([c0,c1,c2,c3,c4,c5,c6,c7,c8,c9,c10].drop 1).take (prog.cellsOf 3))=some y1:=hfl 1 _ rfl;rw[si] at t1;have t2:DataW.trod enc prog w base sp held n 117 (([c0,c1,c2,c3,c4,c5,c6,c7,c8,c9,c10].drop 2).take (prog.cellsOf 117))=some y2:=hfl 2 _ rfl;rw[If] at t2;have t3:DataW.trod enc prog w base sp held n 3 (([c0,c1,c2,c3,c4,c5,c6,c7,c8,c9,c10].drop 3).take (prog.cellsOf 3))=some y3:=hfl 3 _ rfl;rw[si] at t3;have t4:DataW.trod enc prog w base sp held n 3 (([c0,c1,c2,c3,c4,c5,c6,c7,c8,c9,c10].drop 4).take (prog.cellsOf 3))=some y4:=hfl 4 _ rfl;rw[si] at t4;have t5:DataW.trod enc prog w base sp held n 118 (([c0,c1,c2,c3,c4,c5,c6,c7,c8,c9,c10].drop 5).take (prog.cellsOf 118))=some y5:=hfl 5 _ rfl;rw[cOf4] at t5;have t6:DataW.trod enc prog w base sp held n 3 (([c0,c1,c2,c3,c4,c5,c6,c7,c8,c9,c10].drop 9).take (prog.cellsOf 3))=some y6:=hfl 6 _ rfl;rw[si] at t6;have t7:DataW.trod enc prog w base sp held n 4 (([c0,c1,c2,c3,c4,c5,c6,c7,c8,c9,c10].drop 10).take (prog.cellsOf 4))=some y7:=hfl 7 _ rfl;rw[cOfB] at t7;obtain⟨z0,e0,_,w0⟩:=Qaa underlying3 (cs:=[c0]) t0;simp only[List.cons.injEq,and_true] at e0;subst e0;obtain⟨z1,e1,_,w1⟩:=Qaa underlying3 (cs:=[c1]) t1;simp only[List.cons.injEq,and_true] at e1;subst e1;obtain⟨z2,e2,_,w2⟩:=Qaa underlying117 (cs:=[c2]) t2;simp only[List.cons.injEq,and_true] at e2;subst e2;obtain⟨z3,e3,_,w3⟩:=Qaa underlying3 (cs:=[c3]) t3;simp only[List.cons.injEq,and_true] at e3;subst e3;obtain⟨z4,e4,_,w4⟩:=Qaa underlying3 (cs:=[c4]) t4;simp only[List.cons.injEq,and_true] at e4;subst e4;obtain⟨z5,z6,z7,z8,rfl,rfl,rfl,rfl,w5,w6,w7,w8⟩:=wg (c0:=c5) (c1:=c6) (c2:=c7) (c3:=c8) t5;obtain⟨z9,e9,_,w9⟩:=Qaa underlying3 (cs:=[c9]) t6;simp only[List.cons.injEq,and_true] at e9;subst e9;obtain⟨z10,e10,_⟩:=Qc9 underlying4 (cs:=[c10]) t7;simp only[List.cons.injEq,and_true] at e10;subst e10;exact⟨⟨z0,z1,z2,z3,z4,z5,z6,z7,z8,z9,z10⟩,rfl⟩
theorem qh {H:Type} {enc:TypeId×Value→H} {l:List Value} {x:DataW H×List MemPlace} (hsz:l.length=5) (hf:DataW.trod enc prog w base sp held fuel 122 l=some x):∃ f:Fe,l=fec f∧InI f.po∧InI f.he:=by
 obtain⟨c0,c1,c2,c3,c4,rfl⟩:∃ c0 c1 c2 c3 c4,l=[c0,c1,c2,c3,c4]:=by
  match l,(show l.length=5 from hsz) with
  | [c0,c1,c2,c3,c4],_=>exact⟨c0,c1,c2,c3,c4,rfl⟩
 obtain⟨xs,n,_,hx,_,hlen,hfl⟩:=Qb9 underlying122 hf
 match xs,hlen with
 | [y0,y1,y2,y3,y4],_ =>
  have t0:DataW.trod enc prog w base sp held n 3 (([c0,c1,c2,c3,c4].drop 0).take (prog.cellsOf 3))=some y0:=hfl 0 _ rfl;rw[si] at t0;have t1:DataW.trod enc prog w base sp held n 58 (([c0,c1,c2,c3,c4].drop 1).take (prog.cellsOf 58))=some y1:=hfl 1 _ rfl;rw[Il] at t1;have t2:DataW.trod enc prog w base sp held n 108 (([c0,c1,c2,c3,c4].drop 2).take (prog.cellsOf 108))=some y2:=hfl 2 _ rfl;rw[FW] at t2;have t3:DataW.trod enc prog w base sp held n 3 (([c0,c1,c2,c3,c4].drop 3).take (prog.cellsOf 3))=some y3:=hfl 3 _ rfl;rw[si] at t3;have t4:DataW.trod enc prog w base sp held n 3 (([c0,c1,c2,c3,c4].drop 4).take (prog.cellsOf 3))=some y4:=hfl 4 _ rfl;rw[si] at t4;obtain⟨z0,e0,_,w0⟩:=Qaa underlying3 (cs:=[c0]) t0;simp only[List.cons.injEq,and_true] at e0;subst e0;obtain⟨z1,e1,_,w1⟩:=Qaa underlying58 (cs:=[c1]) t1;simp only[List.cons.injEq,and_true] at e1;subst e1;obtain⟨z2,e2,_,w2⟩:=Qaa underlying108 (cs:=[c2]) t2;simp only[List.cons.injEq,and_true] at e2;subst e2;obtain⟨z3,e3,_,w3⟩:=Qaa underlying3 (cs:=[c3]) t3;simp only[List.cons.injEq,and_true] at e3;subst e3;obtain⟨z4,e4,_,w4⟩:=Qaa underlying3 (cs:=[c4]) t4;simp only[List.cons.injEq,and_true] at e4;subst e4;exact⟨⟨z0,z1,z2,z3,z4⟩,rfl,lM w3,lM w4⟩
theorem Gu:prog.cellsOf 26=1:=by kernel_rfl
theorem GE:prog.cellsOf 27=1:=by kernel_rfl
theorem yi {H:Type} {enc:TypeId×Value→H} {l:List Value} {x:DataW H×List MemPlace} (hsz:l.length=8) (hf:DataW.trod enc prog w base sp held fuel 62 l=some x):∃ p:Pt,l=[.int .u8 p.wn,.int .u8 p.vb,.int .u8 p.wm,.int .i64 p.ct,.int .u8 p.su,.int .u8 p.tr,.int .u8 p.mr,.string p.nm]:=by
 obtain⟨c0,c1,c2,c3,c4,c5,c6,c7,rfl⟩:∃ c0 c1 c2 c3 c4 c5 c6 c7,l=[c0,c1,c2,c3,c4,c5,c6,c7]:=by
  match l,hsz with
  | [c0,c1,c2,c3,c4,c5,c6,c7],_=>exact⟨c0,c1,c2,c3,c4,c5,c6,c7,rfl⟩
 obtain⟨xs,n,_,hx,_,hlen,hfl⟩:=Qb9 underlying62 hf
 match xs,hlen with
 | [y0,y1,y2,y3,y4,y5,y6,y7],_ =>
  have t0:DataW.trod enc prog w base sp held n 55 (([c0,c1,c2,c3,c4,c5,c6,c7].drop 0).take (prog.cellsOf 55))=some y0:=hfl 0 _ rfl;rw[cells55'] at t0;have t1:DataW.trod enc prog w base sp held n 56 (([c0,c1,c2,c3,c4,c5,c6,c7].drop 1).take (prog.cellsOf 56))=some y1:=hfl 1 _ rfl;rw[cells56'] at t1;have t2:DataW.trod enc prog w base sp held n 57 (([c0,c1,c2,c3,c4,c5,c6,c7].drop 2).take (prog.cellsOf 57))=some y2:=hfl 2 _ rfl;rw[cells57'] at t2;have t3:DataW.trod enc prog w base sp held n 3 (([c0,c1,c2,c3,c4,c5,c6,c7].drop 3).take (prog.cellsOf 3))=some y3:=hfl 3 _ rfl;rw[cells3'] at t3;have t4:DataW.trod enc prog w base sp held n 58 (([c0,c1,c2,c3,c4,c5,c6,c7].drop 4).take (prog.cellsOf 58))=some y4:=hfl 4 _ rfl;rw[cells58'] at t4;have t5:DataW.trod enc prog w base sp held n 59 (([c0,c1,c2,c3,c4,c5,c6,c7].drop 5).take (prog.cellsOf 59))=some y5:=hfl 5 _ rfl;rw[cells59'] at t5;have t6:DataW.trod enc prog w base sp held n 60 (([c0,c1,c2,c3,c4,c5,c6,c7].drop 6).take (prog.cellsOf 60))=some y6:=hfl 6 _ rfl;rw[cells60'] at t6;have t7:DataW.trod enc prog w base sp held n 9 (([c0,c1,c2,c3,c4,c5,c6,c7].drop 7).take (prog.cellsOf 9))=some y7:=hfl 7 _ rfl;rw[cells9'] at t7;obtain⟨z0,e0,_,w0⟩:=Qaa underlying55 (cs:=[c0]) t0;simp only[List.cons.injEq,and_true] at e0;subst e0;obtain⟨z1,e1,_,w1⟩:=Qaa underlying56 (cs:=[c1]) t1;simp only[List.cons.injEq,and_true] at e1;subst e1;obtain⟨z2,e2,_,w2⟩:=Qaa underlying57 (cs:=[c2]) t2;simp only[List.cons.injEq,and_true] at e2;subst e2;obtain⟨z3,e3,_,w3⟩:=Qaa underlying3 (cs:=[c3]) t3;simp only[List.cons.injEq,and_true] at e3;subst e3;obtain⟨z4,e4,_,w4⟩:=Qaa underlying58 (cs:=[c4]) t4;simp only[List.cons.injEq,and_true] at e4;subst e4;obtain⟨z5,e5,_,w5⟩:=Qaa underlying59 (cs:=[c5]) t5;simp only[List.cons.injEq,and_true] at e5;subst e5;obtain⟨z6,e6,_,w6⟩:=Qaa underlying60 (cs:=[c6]) t6;simp only[List.cons.injEq,and_true] at e6;subst e6;obtain⟨z7,e7,_⟩:=Qcs underlying9 (cs:=[c7]) t7;simp only[List.cons.injEq,and_true] at e7;subst e7;exact⟨⟨z0,z1,z2,z3,z4,z5,z6,z7⟩,rfl⟩
theorem FX:prog.cellsOf 64=10:=by kernel_rfl
theorem jv {H:Type} {enc:TypeId×Value→H} {l:List Value} {x:DataW H×List MemPlace} (hsz:l.length=10) (hf:DataW.trod enc prog w base sp held fuel 64 l=some x):∃ s:Sd,l=sdc s:=by
 obtain⟨c0,c1,c2,c3,c4,c5,c6,c7,c8,c9,rfl⟩:∃ c0 c1 c2 c3 c4 c5 c6 c7 c8 c9,l=[c0,c1,c2,c3,c4,c5,c6,c7,c8,c9]:=by
  match l,hsz with
  | [c0,c1,c2,c3,c4,c5,c6,c7,c8,c9],_=>exact⟨c0,c1,c2,c3,c4,c5,c6,c7,c8,c9,rfl⟩
 obtain⟨xs,n,_,hx,_,hlen,hfl⟩:=Qb9 underlying64 hf
 match xs,hlen with
 | [y0,y1,y2],_ =>
  have t0:DataW.trod enc prog w base sp held n 3 (([c0,c1,c2,c3,c4,c5,c6,c7,c8,c9].drop 0).take (prog.cellsOf 3))=some y0:=hfl 0 _ rfl;rw[cells3'] at t0;have t1:DataW.trod enc prog w base sp held n 3 (([c0,c1,c2,c3,c4,c5,c6,c7,c8,c9].drop 1).take (prog.cellsOf 3))=some y1:=hfl 1 _ rfl;rw[cells3'] at t1;have t2:DataW.trod enc prog w base sp held n 62 (([c0,c1,c2,c3,c4,c5,c6,c7,c8,c9].drop 2).take (prog.cellsOf 62))=some y2:=hfl 2 _ rfl;rw[cells62'] at t2;obtain⟨z0,e0,_,w0⟩:=Qaa underlying3 (cs:=[c0]) t0;simp only[List.cons.injEq,and_true] at e0;subst e0;obtain⟨z1,e1,_,w1⟩:=Qaa underlying3 (cs:=[c1]) t1;simp only[List.cons.injEq,and_true] at e1;subst e1;obtain⟨p,hp⟩:=yi (l:=[c2,c3,c4,c5,c6,c7,c8,c9]) rfl t2;simp only[List.cons.injEq,and_true] at hp;obtain⟨rfl,rfl,rfl,rfl,rfl,rfl,rfl,rfl⟩:=hp;exact⟨⟨z0,z1,p⟩,rfl⟩
theorem qs {H:Type} {enc:TypeId×Value→H} {r:Reach} {b0:Nat} {d:DataW H} {pl:List MemPlace} (hval:Value.okWide prog w r b0 64 v) (hd:DataW.Trod enc prog w base sp held 64 v d pl):∃ s:Sd,v=sdv s:=by
 obtain⟨cs,rfl,hsz⟩:=okWide_struct underlying64 hval;rw[FX] at hsz;obtain⟨fuel,hf⟩:=hd;obtain⟨l⟩:=cs;obtain⟨s,rfl⟩:=jv (show l.length=10 from hsz) hf;exact⟨s,rfl⟩
end Go.Proofs.YtjmepebbcnhalaaGreat
namespace Go.Proofs.YtjmepebbcnhalaaGreat
open Tryz
open Go.RowKit Go.Shelf
variable {r n:Int} {cd:Int→Hd×List Pt} {ts:List Th} {fs:List Fe} {w:World} {b i base fuel:Nat} {T:TypeId} {cs:Array Value} {u v:Value} {sp:Nat→Bool} {held:Bool} {p:Pl} {es:List Ent} {ok:Nat→Prop} {ps:List Pt}
theorem An (w:World) (a b:Array Value) (s t:TypeId):((w.alloc (.cells a s)).alloc (.cells b t)).heap[w.heap.size]?=some (.cells a s (0,0)):=ag QG (aj w a s) (by simp)
set_option maxHeartbeats 2000000
theorem vi (a0 a1 a2 a3 a4:Int) (w:World):(Op.equalIn 10000 122 (.agg #[.int .i64 a0,.int .u8 a1,.int .u16 a2,.int .i64 a3,.int .i64 a4]) (.agg #[.int .i64 a0,.int .u8 a1,.int .u16 a2,.int .i64 a3,.int .i64 a4])).run prog w=.ok true w:=by
 have hS:prog.underlying 122=some (.struct (prog.fieldsOf 122)):=by kernel_rfl
 have hp:prog.stoodInHeld 122=false:=by kernel_rfl
 have u3:=underlying3;have i3:=isAgg3;have z3:=sizeOf3;have uS:=underlying58;have iS:=isAgg58;have zS:=sizeOf58;have uT:=underlying108;have iT:=isAgg108;have zT:=sizeOf108;rw[show (10000:Nat)=9999+1 from rfl,run_equalIn_agg w 9999 122 _ _ hS hp];simp only[Program.fieldsOf,underlying122];go_simp
theorem FT (a0 a1 a2 a3 a4:Int) (w:World):(binOp .neq 122 (.agg #[.int .i64 a0,.int .u8 a1,.int .u16 a2,.int .i64 a3,.int .i64 a4]) (.agg #[.int .i64 a0,.int .u8 a1,.int .u16 a2,.int .i64 a3,.int .i64 a4])).run prog w=.ok (.bool false) w:=by
 rw[run_neq_struct,vi];rfl
theorem FL (op:BinOp) (x y:Operand) (xs ys:Array Value) (w:World):(eqGuard op 122 x y (.agg xs) (.agg ys)).run prog w=.ok () w:=run_eqGuard_agg w op 122 x y xs ys (by kernel_rfl)
theorem yQ (s:Sd) (w:World):(binOp .neq 64 (sdv s) (sdv s)).run prog w=.ok (.bool false) w:=by
 rw[show sdv s=.agg (sdc s).toArray from rfl,run_neq_struct,qd,show eM s s=true from fH.2 rfl];rfl
theorem rG (op:BinOp) (x y:Operand) (xs ys:Array Value) (w:World):(eqGuard op 64 x y (.agg xs) (.agg ys)).run prog w=.ok () w:=run_eqGuard_agg w op 64 x y xs ys (by kernel_rfl)
end Go.Proofs.YtjmepebbcnhalaaGreat
namespace Go.Proofs.YtjmepebbcnhalaaGreat
open Tryz
set_option maxRecDepth 100000
set_option maxHeartbeats 2000000
open Go.RowKit
variable {r n:Int} {cd:Int→Hd×List Pt} {ts:List Th} {fs:List Fe} {w:World} {b i base fuel:Nat} {T:TypeId} {cs:Array Value} {u v:Value} {sp:Nat→Bool} {held:Bool} {p:Pl} {es:List Ent} {ok:Nat→Prop} {ps:List Pt}
theorem Br {c:Cd} (h0:caE p es c=0):p.shut=false∧gi c=0∧¬c.nm∈bL es:=by
 unfold caE at h0;split at h0
 ·omega
 ·rename_i hs;split at h0
  ·exact absurd h0 (by assumption)
  ·rename_i hq;split at h0
   ·omega
   ·rename_i hz;exact⟨by simpa using hs,by simpa using hq,sl (Int.not_le.1 hz)⟩
theorem zI (es:List Ent) (e:Ent):(bL (ins es e)).Perm (e.h.nm :: bL es):=by
 induction es with
 | nil=>exact Qda _
 | cons y r ih =>
  rw[oM];split
  ·exact(List.Perm.cons _ ih).trans (List.Perm.swap _ _ _)
  ·exact Qda _
theorem Ih {fs:List Ent} (h:es.map hp=fs.map hp) {m:Nat} {e:Ent} (he:es[m]?=some e):∃ f,fs[m]?=some f∧f.h=e.h∧f.ps=e.ps:=by
 have h1:(es.map hp)[m]?=some (hp e):=by rw[Qak,he];rfl
 rw[h,Qak] at h1;cases hf:fs[m]? with
 | none=>rw[hf] at h1;cases h1
 | some f =>
  rw[hf] at h1;injection h1 with h1;injection h1 with h1 h2;exact⟨f,rfl,h1,h2⟩
theorem Pr.step {U1 U2:World} {r:Nat} {fs:List Ent} {p':Pl} (P:Pr ok w b r v es fs p) (hb:¬ok b) (hr:¬ok r) (hne:¬b=r) (B:eD ok U1 b es p') (g1:w.grownBy U1 (some b)) (R:RJ U2 r v p') (g2:U1.grownBy U2 (some r)) (hm:MkD p') (hz:p'.nms[0]?=some ⟨#[]⟩):Pr ok U2 b r v es fs p':=by
 have nb:∀ k,ok k→some k≠some b:=fun k hk e=>by injection e with e;exact hb (e ▸ hk)
 have nr:∀ k,ok k→some k≠some r:=fun k hk e=>by injection e with e;exact hr (e ▸ hk)
 refine⟨B.keepR g2 (fun e=>by injection e with e;exact hne e) nr,R,?_,?_,(P.good.keepR g1 nb).keepR g2 nr,P.same,hm,hz⟩
 ·exact(P.rl.keepR g1 (fun k hk=>nb k (P.own k hk).1)).keepR g2 (fun k hk=>nr k (P.own k hk).1)
 ·intro k hk;exact⟨(P.own k hk).1,Qal (P.own k hk).2 (Ql g1.size g2.size)⟩
theorem AY (h:p.nms[0]?=some ⟨#[]⟩) (m:Mk):(maP p m).nms[0]?=some ⟨#[]⟩:=by
 unfold maP;split <;> exact h
theorem ta (h:p.nms[0]?=some ⟨#[]⟩) (es:List Ent):(dX p es).nms[0]?=some ⟨#[]⟩:=by
 unfold dX;split <;> exact h
theorem AR (h:MkD p) (es:List Ent):MkD (dX p es):=by
 unfold dX;split <;> exact h
theorem Ir {fs:List Ent} (h:es.map hp=fs.map hp) (n:Nat):mF es n=mF fs n:=by
 unfold mF;cases he:es[n]? with
 | none =>
  have h1:fs[n]?=none:=Qan (by rw[←lq h];exact List.getElem?_eq_none_iff.1 he);rw[h1]
 | some e =>
  obtain⟨f,hf,h1,_⟩:=Ih h he;rw[hf];simp only;rw[h1]
theorem Ff {fs:List Ent} (h:es.map hp=fs.map hp) (x:Pt):ge es x=ge fs x:=by
 unfold ge;rw[uF h,Ir h]
theorem sO {es fs:List Ent} (h:es.map hp=fs.map hp):∀ ps,dV es ps=dV fs ps
 | []=>rfl
 | x :: r=>by simp only[dV,Ff h,sO h r]
theorem vk {es fs:List Ent} (h:es.map hp=fs.map hp):∀ {a b:List Ent},a.map hp=b.map hp→iH es a=iH fs b
 | [],[],_=>rfl
 | [],_ :: _,e=>by simp at e
 | _ :: _,[],e=>by simp at e
 | x :: r,y :: t,e=>by
  rw[Qbs,Qbs] at e;injection e with e1 e2;injection e1 with _ e1;simp only[iH,sO h,e1,vk h e2]
theorem Fp {fs:List Ent} (h:es.map hp=fs.map hp) (p:Pl):ie p es=ie p fs∧dX p es=dX p fs:=by
 have h1:ie p es=ie p fs:=by unfold ie;rw[vk h h]
 refine⟨h1,?_⟩;unfold dX;rw[h1]
theorem Ay:MkD iQ:=⟨rfl,fun m hm=>by simp[iQ] at hm;exact Or.inl hm⟩
theorem rN (h:Hd) (v:Value) (ps:List Pt) (w:World) (hp:da w v ps) (hL:kg ps.length):Calls prog 51 #[cv h v] w fun e w'=>∃ a c,e=.returned (cv h (.slice a ps.length c))∧bJ w' w.heap.size (.slice a ps.length c) ps∧w.grownBy w' none:=by
 have HP:QH (da w v ps):=hp;obtain⟨nm,su,kd,co,po,he,tr,tk⟩:=h;obtain⟨a,c,rfl⟩:=hp.form;clear hp;unfold cv;simp only;go_enter func51,ntmps51;go_wp2_with fail;refine(Dw _ ps _ (HP.o.keep (am QG _)) hL.copy).mono ?_;rintro e w1 ⟨u,rfl,o1,g1⟩;obtain⟨a1,c1',rfl⟩:=o1.at.form;rw[Qa3,Qa3] at o1
 have A2:CAt w1 w.heap.size ⟨nm,su,kd,co,po,he,tr,tk⟩ (.slice a ps.length c):=by
  refine CAt.keep ?_ g1;exact CAt.keep (aj w (ccs ⟨nm,su,kd,co,po,he,tr,tk⟩ (.slice a ps.length c)) 111) QG
 have Z2:CAt w1 (w.heap.size+1) Hd.none (.slice none 0 0):=by
  refine CAt.keep ?_ g1;have:=aj (w.alloc (.cells (ccs ⟨nm,su,kd,co,po,he,tr,tk⟩ (.slice a ps.length c)) 111)) (ccs Hd.none (.slice none 0 0)) 111;rw[Qa3] at this;exact this
 have G2:w.grownBy w1 none:=aa (am QG _) g1;clear g1;obtain⟨c0,c1,c2,c3,c4,c5,c6,c7,c8⟩:=A2.cells;obtain⟨z0,z1,z2,z3,z4,z5,z6,z7,z8⟩:=Z2.cells;have f:=A2.free 8;have e0:=Z2.free 0;have e1:=Z2.free 1;have e2:=Z2.free 2;have e3:=Z2.free 3;have e4:=Z2.free 4;have e5:=Z2.free 5;have e6:=Z2.free 6;have e7:=Z2.free 7;have e8:=Z2.free 8;simp only[Hd.none] at c0 c1 c2 c3 c4 c5 c6 c7 c8 z0 z1 z2 z3 z4 z5 z6 z7 z8;have HO:QH (bJ w1 (w.heap.size+1+1) (.slice a1 ps.length c1') ps):=o1;have HG:QH (w.grownBy w1 none):=G2;clear A2 Z2 G2 o1 HP;go_wp2;refine bodyPost_ret (v:=.agg #[.string nm,.int .u8 su,.int .u8 kd,.int .i64 co,.int .i64 po,.int .i64 he,.int .u16 tr,.bool tk,.slice a1 ps.length c1']) (by simp[results,results51,go_sem,z0,z1,z2,z3,z4,z5,z6,z7,z8]) rfl ⟨a1,c1',rfl,?_,?_⟩
 ·exact((HO.o.keep (al _ _ 8 _) (fun x e=>by cases e;omega)).keep (ii _ (w.heap.size+1) _ _ _ _ _ _ _ _ _) (fun x e=>by cases e;omega)).big (by omega)
 ·exact ak (ak HG.o (al _ _ 8 _) (fun x e=>by cases e;exact Qj _)) (ii _ (w.heap.size+1) _ _ _ _ _ _ _ _ _) (fun x e=>by cases e;omega)
theorem Pr.card {w1 w2 w3 w4:World} {r:Nat} {fs:List Ent} {h:Hd} {u':Value} {v':Value} {t:Int} (P:Pr ok w b r v es fs p) (hr:¬ok r) (hne:¬b=r) (hnew:∀ k,w.heap.size≤k→ok k) (g1:w.grownBy w1 none) (B2:eD ok w2 b (if t=0 then ins es ⟨h,u,ps⟩ else es) p) (g2:w1.grownBy w2 (some b)) (g3:w2.grownBy w3 none) (Q1:RJ w4 r v' p) (Q2:RL w4 v' (if t=0 then ins fs ⟨h,u',ps⟩ else fs)) (Q3:v'=v∨∀ k,v'.ownBlock=some k→w3.heap.size≤k∧k<w4.heap.size) (Q4:dA (fun k=>(ok k∧k<w3.heap.size)∨(w3.heap.size≤k∧some k≠v'.ownBlock)) w4 (if t=0 then ins fs ⟨h,u',ps⟩ else fs)) (Q5:w3.grownBy w4 (some r)):∃ fs',Pr ok w4 b r v' (if t=0 then ins es ⟨h,u,ps⟩ else es) fs' p:=by
 have nr:∀ k,ok k→some k≠some r:=fun k hk e=>by cases e;exact hr hk
 have s1:w.heap.size≤w3.heap.size:=Ql g1.size (Ql g2.size g3.size);have s2:w3.heap.size≤w4.heap.size:=Q5.size;refine⟨_,(B2.keep g3).keepR Q5 (fun e=>by cases e;exact hne rfl) nr,Q1,Q2,?_,?_,?_,P.mkd,P.zero⟩
 ·intro k hk
  rcases Q3 with rfl | Q3
  ·have:=P.own k hk;exact⟨this.1,by omega⟩
  ·have:=Q3 k hk;exact⟨hnew k (by omega),this.2⟩
 ·exact Q4.mono fun k hk=>hk.elim (fun h=>h.1) (fun h=>hnew k (by omega))
 ·by_cases h0:t=0
  ·rw[if_pos h0,if_pos h0];exact Gv P.same _ _ _ _
  ·rw[if_neg h0,if_neg h0];exact P.same
