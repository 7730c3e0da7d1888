import Derived.Test.YtjmepebbcnhalaaGreatV12
import Derived.ChangeSlices
import Derived.Test.YtjmepebbcnhalaaGreatV11
import Derived.Laws.IdiomArrays
import Derived.ChangeAt
namespace Go.Proofs.YtjmepebbcnhalaaGreat
set_option maxHeartbeats 1000000
open Go.RowKit
variable {n ho:Int} {h:Hd} {ps:List Pt} {w w':World} {base fuel i g o:Nat} {sp:Nat→Bool} {held:Bool} {v vr vf:Value} {t:Th} {f:Fe} {s:Sd} {e:Se} {F:List Fe} {wh:Pt}
theorem Ad (v:Value) (ps:List Pt) (w:World) (h:cD w v ps) (hb:ps.length*40≤140737488355328):Calls Tryz.prog 115 #[v] w fun e w'=>∃ u,e=.returned u∧bG w' w.heap.size u ps∧w.grownBy w' none:=by
 obtain⟨i0,hi,hz0,hz1,hz2⟩:=mF Tryz.info62
 go_enter Tryz.func115,Tryz.ntmps115
 rcases h with ⟨rfl,rfl⟩ | ⟨ad,cap,rfl,hc,h⟩
 ·go_wp2
  go_ret
  exact⟨_,rfl,bG.nil _ _,ay _ _⟩
 ·go_wp2_with (at_builtin;refine wpList_append_own_at _ rfl _ _ 109 rfl w.heap.size 62 i0 _ 8 40 Tryz.underlying109 hi hz0 hz1 hz2 rfl (by decide) _ 0 [] rfl (bG.nil w _) ad ps.length cap (dF ps) rfl (f9 ps) h (io ps) (by unfold maxLen;omega) (by rw[Nat.zero_add];exact hb) (Qj _) ?_;intro v1 w1 o1 g1 _ _)
  go_ret
  refine⟨_,rfl,?_,g1⟩
  simpa [bG] using o1


set_option maxRecDepth 100000
open Go.ChangeShapes Go.WideShapes Go.ChangeAt Go.Deep
theorem lP (h:(Lit.int .u8 n).wf=true):0≤n∧n≤255:=by
 simp[Lit.wf,IntKind.min,IntKind.max,IntKind.signed,IntKind.bits] at h
 omega
theorem Fk (h:(Lit.int .u16 n).wf=true):0≤n∧n≤65535:=by
 simp[Lit.wf,IntKind.min,IntKind.max,IntKind.signed,IntKind.bits] at h
 omega
theorem nd (h:(Lit.int .i64 n).wf=true):-9223372036854775808≤n∧n≤9223372036854775807:=by
 have h1:IntKind.i64.min=-9223372036854775808:=rfl
 have h2:IntKind.i64.max=9223372036854775807:=rfl
 simp[Lit.wf,h1,h2] at h
 omega
theorem Fv (k:Hwf h) (q:∀ p∈ps,Pwf p):(h.with ps).wf:=⟨lP k.su,lP k.kd,nd k.co,nd k.po,nd k.he,Fk k.tr,fun p hp=>⟨lP (q p hp).wn,lP (q p hp).vb,lP (q p hp).wm,nd (q p hp).ct,lP (q p hp).su,lP (q p hp).tr,lP (q p hp).mr⟩⟩
theorem Tryz.cells115'':Tryz.prog.cellsOf 115=4:=by kernel_rfl
theorem Tryz.cells60'':Tryz.prog.cellsOf 60=1:=by kernel_rfl
theorem vN {H:Type} {enc:TypeId×Value→H} {l:List Value} {x:DataW H×List MemPlace} (hsz:l.length=4) (hf:DataW.trod enc Tryz.prog w base sp held fuel 115 l=some x):∃ m:Mk,l=mvs m∧(0≤m.mi∧m.mi≤255):=by
 obtain⟨c0,c1,c2,c3,rfl⟩:∃ c0 c1 c2 c3,l=[c0,c1,c2,c3]:=by
  match l,hsz with
  | [c0,c1,c2,c3],_=>exact⟨c0,c1,c2,c3,rfl⟩
 obtain⟨xs,n,_,hx,_,hlen,hfl⟩:=DataW.trod_struct Tryz.underlying115 hf
 match xs,hlen with
 | [y0,y1,y2,y3],_ =>
  have t0:DataW.trod enc Tryz.prog w base sp held n 60 (([c0,c1,c2,c3].drop 0).take (Tryz.prog.cellsOf 60))=some y0:=hfl 0 _ rfl
  have t1:DataW.trod enc Tryz.prog w base sp held n 9 (([c0,c1,c2,c3].drop 1).take (Tryz.prog.cellsOf 9))=some y1:=hfl 1 _ rfl
  have t2:DataW.trod enc Tryz.prog w base sp held n 3 (([c0,c1,c2,c3].drop 2).take (Tryz.prog.cellsOf 3))=some y2:=hfl 2 _ rfl
  have t3:DataW.trod enc Tryz.prog w base sp held n 3 (([c0,c1,c2,c3].drop 3).take (Tryz.prog.cellsOf 3))=some y3:=hfl 3 _ rfl
  rw[Tryz.cells60''] at t0
  rw[Tryz.cells9'] at t1
  rw[Tryz.cells3'] at t2 t3
  obtain⟨z0,e0,_,w0⟩:=DataW.trod_int Tryz.underlying60 (cs:=[c0]) t0
  obtain⟨z1,e1,_,_⟩:=DataW.trod_string Tryz.underlying9 (cs:=[c1]) t1
  obtain⟨z2,e2,_,_⟩:=DataW.trod_int Tryz.underlying3 (cs:=[c2]) t2
  obtain⟨z3,e3,_,_⟩:=DataW.trod_int Tryz.underlying3 (cs:=[c3]) t3
  simp only[List.cons.injEq,and_true] at e0 e1 e2 e3
  subst e0 e1 e2 e3
  exact⟨⟨z0,z1,z2,z3⟩,rfl,by have h0:=w0;simp[Lit.wf,IntKind.min,IntKind.max,IntKind.signed,IntKind.bits] at h0;omega⟩
theorem EF:Tryz.prog.bytesOf 111=80:=by kernel_rfl
theorem EI:Tryz.prog.bytesOf 115=40:=by kernel_rfl
theorem ov {H:Type} {P:Program} {e:TypeId} {n:Nat}:∀ {l:List (DataW H)} {d:DataW H},d∈l→n∈d.weights P e→n∈DataW.weightsAll P e l
 | x :: r,d,hd,hn=>by
  simp only[DataW.weightsAll,List.mem_append]
  rcases List.mem_cons.1 hd with rfl | hd
  ·exact Or.inl hn
  ·exact Or.inr (ov hd hn)
theorem uE {H:Type} {enc:TypeId×Value→H} {x:DataW H×List MemPlace}
  (h:DataW.trod enc Tryz.prog w base sp held fuel 22 [v]=some x) (hz:∀ n∈x.1.weights Tryz.prog 22,n≤reachBytes):∃ cs:List Ent,(∃ a k,v=.slice a cs.length k∧(0<cs.length→∃ g o,a=some ⟨g,o,none⟩∧mg w g o cs))∧(∀ e∈cs,cD w e.v e.ps∧jz e.ps.length∧(e.h.with e.ps).wf)∧ba cs.length:=by
 rcases open_slice Tryz.underlying22 h with ⟨hcs,_⟩ | ⟨a,len,cp,m,f,D,Pl,hcs,_,hl,hm,hmm,hxx,hx⟩
 ·simp at hcs
  subst hcs
  exact⟨[],⟨none,0,rfl,fun h0=>by simp at h0⟩,by simp,by unfold ba;decide⟩
 ·simp at hcs
  subst hcs
  rw[Tryz.cells111'] at hx
  have hnm:len≤m:=by rw[hmm];split <;> omega
  have hp:∀ i,i<len→∃ e:Ent,(cD w e.v e.ps∧jz e.ps.length∧(e.h.with e.ps).wf)∧∀ k u,(cvs e.h e.v)[k]?=some u→w.cell? ((a.add (i*9)).add k)=some u:=fun i hi=>by
   obtain⟨cs',h1,h2⟩:=hx i (by omega)
   obtain⟨_,hlen,hc⟩:=World.cells?_some h1
   obtain⟨hd,u,ps,e,p1,p2,p3⟩:=uB hlen h2 (fun n hn=>hz n (by
    rw[hxx]
    simp only[DataW.weights,Tryz.underlying22]
    exact List.mem_cons_of_mem _ (List.mem_append_left _ (ov (List.mem_map.2 ⟨i,List.mem_range.2 hi,rfl⟩) hn))))
   subst e
   refine⟨⟨hd,u,ps⟩,⟨p1,p2,Fv p3.1 p3.2⟩,fun k y hk=>?_⟩
   have hk9:k<9:=(Qh hk).1
   rw[hc k hk9]
   exact hk
  haveI:Inhabited Ent:=⟨⟨Hd.none,.bool false,[]⟩⟩
  obtain⟨F,hF⟩:=choose_lt (α:=Ent) hp
  refine⟨(List.range len).map F,⟨some a,cp,by simp,fun h0=>?_⟩,?_,?_⟩
  ·have h0':0<len:=by simpa using h0
   have c0:=(hF 0 h0').2 0 _ rfl
   have ex:(a.add (0*9)).add 0=a:=by simp[Addr.add]
   rw[ex] at c0
   have pl:=fQ c0
   refine⟨a.block,a.off,by rw[←pl],fun j e he=>?_⟩
   have hj:j<len:=by have:=(Qh he).1;simpa using this
   obtain rfl:e=F j:=by simp[hj] at he;exact he.symm
   have at_:∀ k u,(cvs (F j).h (F j).v)[k]?=some u→w.cell? ⟨a.block,a.off+j*9+k,none⟩=some u:=fun k u hk=>by
    have:=(hF j hj).2 k u hk
    rw[mD pl,pl,de,←Nat.add_assoc] at this
    exact this
   exact⟨at_ 0 _ rfl,at_ 1 _ rfl,at_ 2 _ rfl,at_ 3 _ rfl,at_ 4 _ rfl,at_ 5 _ rfl,at_ 6 _ rfl,at_ 7 _ rfl,at_ 8 _ rfl⟩
  ·intro e he
   obtain⟨i,hi,rfl⟩:=List.mem_map.1 he
   exact(hF i (List.mem_range.1 hi)).1
  ·have hb:=hz ((len+(m - len))*80) (by rw[hxx];simp[DataW.weights,Tryz.underlying22,EF])
   unfold reachBytes at hb
   unfold ba
   simp only[List.length_map,List.length_range]
   omega
theorem ul {H:Type} {enc:TypeId×Value→H} {x:DataW H×List MemPlace}
  (h:DataW.trod enc Tryz.prog w base sp held fuel 23 [v]=some x) (hz:∀ n∈x.1.weights Tryz.prog 23,n≤reachBytes):∃ ms:List Mk,(∃ a k,v=.slice a ms.length k∧(0<ms.length→∃ g o,a=some ⟨g,o,none⟩∧MAt w g o ms))∧(∀ m∈ms,0≤m.mi∧m.mi≤255)∧ba ms.length:=by
 rcases open_slice Tryz.underlying23 h with ⟨hcs,_⟩ | ⟨a,len,cp,m,f,D,Pl,hcs,_,hl,hm,hmm,hxx,hx⟩
 ·simp at hcs
  subst hcs
  exact⟨[],⟨none,0,rfl,fun h0=>by simp at h0⟩,by simp,by unfold ba;decide⟩
 ·simp at hcs
  subst hcs
  rw[Tryz.cells115''] at hx
  have hnm:len≤m:=by rw[hmm];split <;> omega
  have hp:∀ i,i<len→∃ e:Mk,(0≤e.mi∧e.mi≤255)∧∀ k u,(mvs e)[k]?=some u→w.cell? ((a.add (i*4)).add k)=some u:=fun i hi=>by
   obtain⟨cs',h1,h2⟩:=hx i (by omega)
   obtain⟨_,hlen,hc⟩:=World.cells?_some h1
   obtain⟨e,he,hr⟩:=vN hlen h2
   subst he
   refine⟨e,hr,fun k y hk=>?_⟩
   have hk4:k<4:=(Qh hk).1
   rw[hc k hk4]
   exact hk
  haveI:Inhabited Mk:=⟨Mk.none⟩
  obtain⟨F,hF⟩:=choose_lt (α:=Mk) hp
  refine⟨(List.range len).map F,⟨some a,cp,by simp,fun h0=>?_⟩,fun m hm=>by obtain⟨i,hi,rfl⟩:=List.mem_map.1 hm;exact(hF i (List.mem_range.1 hi)).1,by
   have hb:=hz ((len+(m - len))*40) (by rw[hxx];simp[DataW.weights,Tryz.underlying23,EI])
   unfold reachBytes at hb
   unfold ba
   simp only[List.length_map,List.length_range]
   omega⟩
  have h0':0<len:=by simpa using h0
  have c0:=(hF 0 h0').2 0 _ rfl
  have ex:(a.add (0*4)).add 0=a:=by simp[Addr.add]
  rw[ex] at c0
  have pl:=fQ c0
  refine⟨a.block,a.off,by rw[←pl],fun j e he=>?_⟩
  have hj:j<len:=by have:=(Qh he).1;simpa using this
  obtain rfl:e=F j:=by simp[hj] at he;exact he.symm
  have at_:∀ k u,(mvs (F j))[k]?=some u→w.cell? ⟨a.block,a.off+j*4+k,none⟩=some u:=fun k u hk=>by
   have:=(hF j hj).2 k u hk
   rw[mD pl,pl,de,←Nat.add_assoc] at this
   exact this
  exact⟨at_ 0 _ rfl,at_ 1 _ rfl,at_ 2 _ rfl,at_ 3 _ rfl⟩
structure FiA (w:World) (vc vm:Value) (cs:List Ent) (ms:List Mk):Prop where
 c:∃ a k,vc=.slice a cs.length k∧(0<cs.length→∃ g o,a=some ⟨g,o,none⟩∧mg w g o cs)
 m:∃ a k,vm=.slice a ms.length k∧(0<ms.length→∃ g o,a=some ⟨g,o,none⟩∧MAt w g o ms)
 ps:∀ e∈cs,cD w e.v e.ps∧jz e.ps.length∧(e.h.with e.ps).wf
 mr:∀ m∈ms,0≤m.mi∧m.mi≤255
 cz:ba cs.length
 mz:ba ms.length
theorem FiA.keep {vc vm:Value} {cs:List Ent} {ms:List Mk} (h:FiA w vc vm cs ms) (g:w.grownBy w' none):FiA w' vc vm cs ms:=by
 obtain⟨⟨a,k,e,h1⟩,⟨c,m,i,h3⟩,h4,h5,h6,h7⟩:=h
 refine⟨⟨a,k,e,fun h0=>?_⟩,⟨c,m,i,fun h0=>?_⟩,fun e he=>⟨(h4 e he).1.keep g,(h4 e he).2⟩,h5,h6,h7⟩
 ·obtain⟨x,o,e1,e2⟩:=h1 h0;exact⟨x,o,e1,e2.keep g⟩
 ·obtain⟨x,o,e1,e2⟩:=h3 h0;exact⟨x,o,e1,e2.keep g⟩
theorem tP:Tryz.prog.cellsOf 25=3:=by kernel_rfl
theorem Tryz.cells22'':Tryz.prog.cellsOf 22=1:=by kernel_rfl
theorem Tryz.cells4'':Tryz.prog.cellsOf 4=1:=by kernel_rfl
theorem Tryz.cells23'':Tryz.prog.cellsOf 23=1:=by kernel_rfl
theorem zJ {H:Type} {enc:TypeId×Value→H} {r:Reach} {b0:Nat} {d:DataW H} {pl:List MemPlace} (hval:Value.okWide Tryz.prog w r b0 25 v) (hd:DataW.Trod enc Tryz.prog w base sp held 25 v d pl) (hz:∀ n∈d.weights Tryz.prog 25,n≤reachBytes):∃ (vc vm:Value) (op:Bool) (cs:List Ent) (ms:List Mk),v=.agg #[vc,vm,.bool op]∧FiA w vc vm cs ms:=by
 obtain⟨cs,rfl,hsz⟩:=okWide_struct Tryz.underlying25 hval
 rw[tP] at hsz
 obtain⟨fuel,hf⟩:=hd
 obtain⟨l⟩:=cs
 obtain⟨c0,c1,c2,rfl⟩:∃ c0 c1 c2,l=[c0,c1,c2]:=by
  match l,(show l.length=3 from hsz) with
  | [c0,c1,c2],_=>exact⟨c0,c1,c2,rfl⟩
 obtain⟨xs,n,_,hx,_,hlen,hfl⟩:=DataW.trod_struct Tryz.underlying25 hf
 match xs,hlen with
 | [y0,y1,y2],_ =>
  have t0:DataW.trod enc Tryz.prog w base sp held n 22 (([c0,c1,c2].drop 0).take (Tryz.prog.cellsOf 22))=some y0:=hfl 0 _ rfl
  have t1:DataW.trod enc Tryz.prog w base sp held n 23 (([c0,c1,c2].drop 1).take (Tryz.prog.cellsOf 23))=some y1:=hfl 1 _ rfl
  have t2:DataW.trod enc Tryz.prog w base sp held n 4 (([c0,c1,c2].drop 2).take (Tryz.prog.cellsOf 4))=some y2:=hfl 2 _ rfl
  rw[Tryz.cells22''] at t0
  rw[Tryz.cells23''] at t1
  rw[Tryz.cells4''] at t2
  obtain⟨cs,hC,hP,hCz⟩:=uE (v:=c0) t0 (fun n hn=>hz n (by
   rw[(Prod.mk.inj hx).1]
   simp only[DataW.weights,Tryz.underlying25]
   exact DataW.weights_mem_each (j:=0) rfl rfl n hn))
  obtain⟨ms,hM,hK,hMz⟩:=ul (v:=c1) t1 (fun n hn=>hz n (by
   rw[(Prod.mk.inj hx).1]
   simp only[DataW.weights,Tryz.underlying25]
   exact DataW.weights_mem_each (j:=1) rfl rfl n hn))
  obtain⟨op,e2,_⟩:=DataW.trod_bool Tryz.underlying4 (cs:=[c2]) t2
  simp only[List.cons.injEq,and_true] at e2
  subst e2
  exact⟨c0,c1,op,cs,ms,rfl,hC,hM,hP,hK,hCz,hMz⟩
theorem Tryz.own:ownKnob Tryz.prog.godebug=none:=by kernel_rfl
theorem Tryz.laidOut:laidOutB Tryz.prog=true:=by kernel_rfl
def thv (t:Th):Value:=.agg #[.int .i64 t.card,.int .i64 t.owner,.int .u8 t.place,.int .i64 t.stamp,.int .i64 t.hurt,.int .i64 t.m0,.int .i64 t.m1,.int .i64 t.m2,.int .i64 t.m3,.int .i64 t.done,.bool t.fresh]
theorem rg (h:(Lit.int .i64 n).wf=true):InI n:=nd h
theorem zq:Tryz.prog.cellsOf 3=1:=by kernel_rfl
theorem cOfB:Tryz.prog.cellsOf 4=1:=by kernel_rfl
theorem FQ:Tryz.prog.cellsOf 117=1:=by kernel_rfl
theorem cOf4:Tryz.prog.cellsOf 118=4:=by kernel_rfl
theorem Fz:Tryz.prog.cellsOf 120=11:=by kernel_rfl
theorem uL {H:Type} {enc:TypeId×Value→H} {c0 c1 c2 c3:Value} {x:DataW H×List MemPlace} (hf:DataW.trod enc Tryz.prog w base sp held fuel 118 [c0,c1,c2,c3]=some x):∃ z0 z1 z2 z3:Int,c0=.int .i64 z0∧c1=.int .i64 z1∧c2=.int .i64 z2∧c3=.int .i64 z3∧InI z0∧InI z1∧InI z2∧InI z3:=by
 obtain⟨y0,y1,y2,y3,m,hx,hy0,hy1,hy2,hy3⟩:=trod_array4 Tryz.underlying118 zq hf
 obtain⟨x0,e0,_,w0⟩:=DataW.trod_int Tryz.underlying3 hy0
 obtain⟨x1,e1,_,w1⟩:=DataW.trod_int Tryz.underlying3 hy1
 obtain⟨x2,e2,_,w2⟩:=DataW.trod_int Tryz.underlying3 hy2
 obtain⟨x3,e3,_,w3⟩:=DataW.trod_int Tryz.underlying3 hy3
 simp only[List.cons.injEq,and_true] at e0 e1 e2 e3
 exact⟨x0,x1,x2,x3,e0,e1,e2,e3,rg w0,rg w1,rg w2,rg w3⟩
end Go.Proofs.YtjmepebbcnhalaaGreat
namespace Go.Proofs.YtjmepebbcnhalaaGreat
open Go.RowKit
variable {n ho:Int} {h:Hd} {ps:List Pt} {w w':World} {base fuel i g o:Nat} {sp:Nat→Bool} {held:Bool} {v vr vf:Value} {t:Th} {f:Fe} {s:Sd} {e:Se} {F:List Fe} {wh:Pt}
structure Rv where
 r:Rw
 pa:Option Addr
 ca:Nat
def Rv.u (x:Rv):Value:=.slice x.pa x.r.ps.length x.ca
def rws (X:List Rv):List Rw:=X.map Rv.r
theorem cQ (X:List Rv):(rws X).length=X.length:=List.length_map _
theorem fI {X:List Rv} (h:i<X.length):(rws X).getD i Rw.none=X[i].r:=by
 unfold rws
 rw[List.getD_eq_getElem?_getD,List.getElem?_map,Qg h]
 rfl
def thc (t:Th):List Value:=[.int .i64 t.card,.int .i64 t.owner,.int .u8 t.place,.int .i64 t.stamp,.int .i64 t.hurt,.int .i64 t.m0,.int .i64 t.m1,.int .i64 t.m2,.int .i64 t.m3,.int .i64 t.done,.bool t.fresh]
theorem Al (t:Th):∀ v∈thc t,v.oneCell'=true:=fun v h=>by
 simp only[thc,List.mem_cons,List.not_mem_nil,or_false] at h
 rcases h with h | h | h | h | h | h | h | h | h | h | h <;> (subst h;rfl)
def thR:az Th:=⟨11,thc,fun _=>rfl,Al,by decide⟩
theorem bz (h:w.rangeAt g o (thc t)):w.cell? ⟨g,o,none⟩=some (.int .i64 t.card)∧w.cell? ⟨g,o+1,none⟩=some (.int .i64 t.owner)∧w.cell? ⟨g,o+2,none⟩=some (.int .u8 t.place)∧w.cell? ⟨g,o+3,none⟩=some (.int .i64 t.stamp)∧w.cell? ⟨g,o+4,none⟩=some (.int .i64 t.hurt)∧w.cell? ⟨g,o+5,none⟩=some (.int .i64 t.m0)∧w.cell? ⟨g,o+6,none⟩=some (.int .i64 t.m1)∧w.cell? ⟨g,o+7,none⟩=some (.int .i64 t.m2)∧w.cell? ⟨g,o+8,none⟩=some (.int .i64 t.m3)∧w.cell? ⟨g,o+9,none⟩=some (.int .i64 t.done)∧w.cell? ⟨g,o+10,none⟩=some (.bool t.fresh) :=
 ⟨h 0 _ rfl,h 1 _ rfl,h 2 _ rfl,h 3 _ rfl,h 4 _ rfl,h 5 _ rfl,h 6 _ rfl,h 7 _ rfl,h 8 _ rfl,h 9 _ rfl,h 10 _ rfl⟩
def ThB (w:World) (g:Nat) (t:Th):Prop:=w.heap[g]?=some (.cells #[.int .i64 t.card,.int .i64 t.owner,.int .u8 t.place,.int .i64 t.stamp,.int .i64 t.hurt,.int .i64 t.m0,.int .i64 t.m1,.int .i64 t.m2,.int .i64 t.m3,.int .i64 t.done,.bool t.fresh] 120 (0,0))
theorem cW (h:ThB w g t):w.cell? ⟨g,0,none⟩=some (.int .i64 t.card)∧w.cell? ⟨g,1,none⟩=some (.int .i64 t.owner)∧w.cell? ⟨g,2,none⟩=some (.int .u8 t.place)∧w.cell? ⟨g,3,none⟩=some (.int .i64 t.stamp)∧w.cell? ⟨g,4,none⟩=some (.int .i64 t.hurt)∧w.cell? ⟨g,5,none⟩=some (.int .i64 t.m0)∧w.cell? ⟨g,6,none⟩=some (.int .i64 t.m1)∧w.cell? ⟨g,7,none⟩=some (.int .i64 t.m2)∧w.cell? ⟨g,8,none⟩=some (.int .i64 t.m3)∧w.cell? ⟨g,9,none⟩=some (.int .i64 t.done)∧w.cell? ⟨g,10,none⟩=some (.bool t.fresh) :=
 ⟨(aa h 0).trans rfl,(aa h 1).trans rfl,(aa h 2).trans rfl,(aa h 3).trans rfl,(aa h 4).trans rfl,(aa h 5).trans rfl,(aa h 6).trans rfl,(aa h 7).trans rfl,(aa h 8).trans rfl,(aa h 9).trans rfl,(aa h 10).trans rfl⟩
def fec (f:Fe):List Value:=[.int .i64 f.ho,.int .u8 f.su,.int .u16 f.tr,.int .i64 f.po,.int .i64 f.he]
theorem nN (f:Fe):∀ v∈fec f,v.oneCell'=true:=fun v h=>by
 simp only[fec,List.mem_cons,List.not_mem_nil,or_false] at h
 rcases h with h | h | h | h | h <;> (subst h;rfl)
def feR:az Fe:=⟨5,fec,fun _=>rfl,nN,by decide⟩
theorem bm (h:w.rangeAt g o (fec f)):w.cell? ⟨g,o,none⟩=some (.int .i64 f.ho)∧w.cell? ⟨g,o+1,none⟩=some (.int .u8 f.su)∧w.cell? ⟨g,o+2,none⟩=some (.int .u16 f.tr)∧w.cell? ⟨g,o+3,none⟩=some (.int .i64 f.po)∧w.cell? ⟨g,o+4,none⟩=some (.int .i64 f.he) :=
 ⟨h 0 _ rfl,h 1 _ rfl,h 2 _ rfl,h 3 _ rfl,h 4 _ rfl⟩
def FeB (w:World) (g:Nat) (f:Fe):Prop:=w.heap[g]?=some (.cells #[.int .i64 f.ho,.int .u8 f.su,.int .u16 f.tr,.int .i64 f.po,.int .i64 f.he] 122 (0,0))
theorem jH (h:FeB w g f):w.cell? ⟨g,0,none⟩=some (.int .i64 f.ho)∧w.cell? ⟨g,1,none⟩=some (.int .u8 f.su)∧w.cell? ⟨g,2,none⟩=some (.int .u16 f.tr)∧w.cell? ⟨g,3,none⟩=some (.int .i64 f.po)∧w.cell? ⟨g,4,none⟩=some (.int .i64 f.he) :=
 ⟨(aa h 0).trans rfl,(aa h 1).trans rfl,(aa h 2).trans rfl,(aa h 3).trans rfl,(aa h 4).trans rfl⟩
def sdc (s:Sd):List Value:=[.int .i64 s.th,.int .i64 s.pl,.int .u8 s.wh.wn,.int .u8 s.wh.vb,.int .u8 s.wh.wm,.int .i64 s.wh.ct,.int .u8 s.wh.su,.int .u8 s.wh.tr,.int .u8 s.wh.mr,.string s.wh.nm]
def sdv (s:Sd):Value:=.agg #[.int .i64 s.th,.int .i64 s.pl,.int .u8 s.wh.wn,.int .u8 s.wh.vb,.int .u8 s.wh.wm,.int .i64 s.wh.ct,.int .u8 s.wh.su,.int .u8 s.wh.tr,.int .u8 s.wh.mr,.string s.wh.nm]
theorem fz (s:Sd):∀ v∈sdc s,v.oneCell'=true:=fun v h=>by
 simp only[sdc,List.mem_cons,List.not_mem_nil,or_false] at h
 rcases h with h | h | h | h | h | h | h | h | h | h <;> (subst h;rfl)
def sdR:az Sd:=⟨10,sdc,fun _=>rfl,fz,by decide⟩
theorem bN (h:w.rangeAt g o (sdc s)):w.cell? ⟨g,o,none⟩=some (.int .i64 s.th)∧w.cell? ⟨g,o+1,none⟩=some (.int .i64 s.pl)∧w.cell? ⟨g,o+2,none⟩=some (.int .u8 s.wh.wn)∧w.cell? ⟨g,o+3,none⟩=some (.int .u8 s.wh.vb)∧w.cell? ⟨g,o+4,none⟩=some (.int .u8 s.wh.wm)∧w.cell? ⟨g,o+5,none⟩=some (.int .i64 s.wh.ct)∧w.cell? ⟨g,o+6,none⟩=some (.int .u8 s.wh.su)∧w.cell? ⟨g,o+7,none⟩=some (.int .u8 s.wh.tr)∧w.cell? ⟨g,o+8,none⟩=some (.int .u8 s.wh.mr)∧w.cell? ⟨g,o+9,none⟩=some (.string s.wh.nm) :=
 ⟨h 0 _ rfl,h 1 _ rfl,h 2 _ rfl,h 3 _ rfl,h 4 _ rfl,h 5 _ rfl,h 6 _ rfl,h 7 _ rfl,h 8 _ rfl,h 9 _ rfl⟩
def SdB (w:World) (g:Nat) (s:Sd):Prop:=w.heap[g]?=some (.cells #[.int .i64 s.th,.int .i64 s.pl,.int .u8 s.wh.wn,.int .u8 s.wh.vb,.int .u8 s.wh.wm,.int .i64 s.wh.ct,.int .u8 s.wh.su,.int .u8 s.wh.tr,.int .u8 s.wh.mr,.string s.wh.nm] 64 (0,0))
theorem bS (h:SdB w g s):w.cell? ⟨g,0,none⟩=some (.int .i64 s.th)∧w.cell? ⟨g,1,none⟩=some (.int .i64 s.pl)∧w.cell? ⟨g,2,none⟩=some (.int .u8 s.wh.wn)∧w.cell? ⟨g,3,none⟩=some (.int .u8 s.wh.vb)∧w.cell? ⟨g,4,none⟩=some (.int .u8 s.wh.wm)∧w.cell? ⟨g,5,none⟩=some (.int .i64 s.wh.ct)∧w.cell? ⟨g,6,none⟩=some (.int .u8 s.wh.su)∧w.cell? ⟨g,7,none⟩=some (.int .u8 s.wh.tr)∧w.cell? ⟨g,8,none⟩=some (.int .u8 s.wh.mr)∧w.cell? ⟨g,9,none⟩=some (.string s.wh.nm) :=
 ⟨(aa h 0).trans rfl,(aa h 1).trans rfl,(aa h 2).trans rfl,(aa h 3).trans rfl,(aa h 4).trans rfl,(aa h 5).trans rfl,(aa h 6).trans rfl,(aa h 7).trans rfl,(aa h 8).trans rfl,(aa h 9).trans rfl⟩
def sec (e:Se):List Value:=[.int .i64 e.s.th,.int .i64 e.s.pl,.int .u8 e.s.wh.wn,.int .u8 e.s.wh.vb,.int .u8 e.s.wh.wm,.int .i64 e.s.wh.ct,.int .u8 e.s.wh.su,.int .u8 e.s.wh.tr,.int .u8 e.s.wh.mr,.string e.s.wh.nm,.int .i64 (e.ro:Int)]
def sev (e:Se):Value:=.agg #[.int .i64 e.s.th,.int .i64 e.s.pl,.int .u8 e.s.wh.wn,.int .u8 e.s.wh.vb,.int .u8 e.s.wh.wm,.int .i64 e.s.wh.ct,.int .u8 e.s.wh.su,.int .u8 e.s.wh.tr,.int .u8 e.s.wh.mr,.string e.s.wh.nm,.int .i64 (e.ro:Int)]
theorem ni (e:Se):∀ v∈sec e,v.oneCell'=true:=fun v h=>by
 simp only[sec,List.mem_cons,List.not_mem_nil,or_false] at h
 rcases h with h | h | h | h | h | h | h | h | h | h | h <;> (subst h;rfl)
def seR:az Se:=⟨11,sec,fun _=>rfl,ni,by decide⟩
theorem ft (h:w.rangeAt g o (sec e)):w.cell? ⟨g,o,none⟩=some (.int .i64 e.s.th)∧w.cell? ⟨g,o+1,none⟩=some (.int .i64 e.s.pl)∧w.cell? ⟨g,o+2,none⟩=some (.int .u8 e.s.wh.wn)∧w.cell? ⟨g,o+3,none⟩=some (.int .u8 e.s.wh.vb)∧w.cell? ⟨g,o+4,none⟩=some (.int .u8 e.s.wh.wm)∧w.cell? ⟨g,o+5,none⟩=some (.int .i64 e.s.wh.ct)∧w.cell? ⟨g,o+6,none⟩=some (.int .u8 e.s.wh.su)∧w.cell? ⟨g,o+7,none⟩=some (.int .u8 e.s.wh.tr)∧w.cell? ⟨g,o+8,none⟩=some (.int .u8 e.s.wh.mr)∧w.cell? ⟨g,o+9,none⟩=some (.string e.s.wh.nm)∧w.cell? ⟨g,o+10,none⟩=some (.int .i64 (e.ro:Int)) :=
 ⟨h 0 _ rfl,h 1 _ rfl,h 2 _ rfl,h 3 _ rfl,h 4 _ rfl,h 5 _ rfl,h 6 _ rfl,h 7 _ rfl,h 8 _ rfl,h 9 _ rfl,h 10 _ rfl⟩
def SeB (w:World) (g:Nat) (e:Se):Prop:=w.heap[g]?=some (.cells #[.int .i64 e.s.th,.int .i64 e.s.pl,.int .u8 e.s.wh.wn,.int .u8 e.s.wh.vb,.int .u8 e.s.wh.wm,.int .i64 e.s.wh.ct,.int .u8 e.s.wh.su,.int .u8 e.s.wh.tr,.int .u8 e.s.wh.mr,.string e.s.wh.nm,.int .i64 (e.ro:Int)] 131 (0,0))
theorem fh (h:SeB w g e):w.cell? ⟨g,0,none⟩=some (.int .i64 e.s.th)∧w.cell? ⟨g,1,none⟩=some (.int .i64 e.s.pl)∧w.cell? ⟨g,2,none⟩=some (.int .u8 e.s.wh.wn)∧w.cell? ⟨g,3,none⟩=some (.int .u8 e.s.wh.vb)∧w.cell? ⟨g,4,none⟩=some (.int .u8 e.s.wh.wm)∧w.cell? ⟨g,5,none⟩=some (.int .i64 e.s.wh.ct)∧w.cell? ⟨g,6,none⟩=some (.int .u8 e.s.wh.su)∧w.cell? ⟨g,7,none⟩=some (.int .u8 e.s.wh.tr)∧w.cell? ⟨g,8,none⟩=some (.int .u8 e.s.wh.mr)∧w.cell? ⟨g,9,none⟩=some (.string e.s.wh.nm)∧w.cell? ⟨g,10,none⟩=some (.int .i64 (e.ro:Int)) :=
 ⟨(aa h 0).trans rfl,(aa h 1).trans rfl,(aa h 2).trans rfl,(aa h 3).trans rfl,(aa h 4).trans rfl,(aa h 5).trans rfl,(aa h 6).trans rfl,(aa h 7).trans rfl,(aa h 8).trans rfl,(aa h 9).trans rfl,(aa h 10).trans rfl⟩
def rvc (x:Rv):List Value:=[.int .i64 x.r.nu,.int .i64 x.r.st,.string x.r.h.nm,.int .u8 x.r.h.su,.int .u8 x.r.h.kd,.int .i64 x.r.h.co,.int .i64 x.r.h.po,.int .i64 x.r.h.he,.int .u16 x.r.h.tr,.bool x.r.h.tk,x.u]
theorem tg (x:Rv):∀ v∈rvc x,v.oneCell'=true:=fun v h=>by
 simp only[rvc,List.mem_cons,List.not_mem_nil,or_false] at h
 rcases h with h | h | h | h | h | h | h | h | h | h | h <;> (subst h;rfl)
def rvR:az Rv:=⟨11,rvc,fun _=>rfl,tg,by decide⟩
theorem eM {x:Rv} (h:w.rangeAt g o (rvc x)):w.cell? ⟨g,o,none⟩=some (.int .i64 x.r.nu)∧w.cell? ⟨g,o+1,none⟩=some (.int .i64 x.r.st)∧w.cell? ⟨g,o+2,none⟩=some (.string x.r.h.nm)∧w.cell? ⟨g,o+3,none⟩=some (.int .u8 x.r.h.su)∧w.cell? ⟨g,o+4,none⟩=some (.int .u8 x.r.h.kd)∧w.cell? ⟨g,o+5,none⟩=some (.int .i64 x.r.h.co)∧w.cell? ⟨g,o+6,none⟩=some (.int .i64 x.r.h.po)∧w.cell? ⟨g,o+7,none⟩=some (.int .i64 x.r.h.he)∧w.cell? ⟨g,o+8,none⟩=some (.int .u16 x.r.h.tr)∧w.cell? ⟨g,o+9,none⟩=some (.bool x.r.h.tk)∧w.cell? ⟨g,o+10,none⟩=some (x.u) :=
 ⟨h 0 _ rfl,h 1 _ rfl,h 2 _ rfl,h 3 _ rfl,h 4 _ rfl,h 5 _ rfl,h 6 _ rfl,h 7 _ rfl,h 8 _ rfl,h 9 _ rfl,h 10 _ rfl⟩
def tbv (vr vf:Value):Value:=.agg #[vr,vf]
def TbB (w:World) (g:Nat) (vr vf:Value):Prop:=w.heap[g]?=some (.cells #[vr,vf] 125 (0,0))
theorem bP (h:TbB w g vr vf):w.cell? ⟨g,0,none⟩=some vr∧w.cell? ⟨g,1,none⟩=some vf:=⟨(aa h 0).trans rfl,(aa h 1).trans rfl⟩
structure dX (w:World) (vr vf:Value) (X:List Rv) (F:List Fe):Prop where
 rows:rvR.At w vr X
 parts:∀ x∈X,cD w x.u x.r.ps∧x.r.ps.length≤4
 fs:feR.At w vf F
 len:F.length=X.length
 few:X.length≤16
theorem dX.keep {X:List Rv} (h:dX w vr vf X F) (g:w.grownBy w' none):dX w' vr vf X F:=⟨h.rows.keep g,fun x hx=>⟨(h.parts x hx).1.keep g,(h.parts x hx).2⟩,h.fs.keep g,h.len,h.few⟩
theorem dX.row {X:List Rv} (h:dX w vr vf X F) {i:Nat} (hi:i<X.length):∃ g off cap,vr=.slice (some ⟨g,off,none⟩) X.length cap∧w.rangeAt g (off+i*11) (rvc X[i]):=h.rows.there hi
theorem dX.fe {X:List Rv} (h:dX w vr vf X F) {i:Nat} (hi:i<X.length):∃ g off cap,vf=.slice (some ⟨g,off,none⟩) F.length cap∧w.rangeAt g (off+i*5) (fec (F.getD i Fe.none)):=by
 have hi':i<F.length:=by rw[h.len];exact hi
 have:=h.fs.there hi'
 rw[show F.getD i Fe.none=F[i] from by rw[List.getD_eq_getElem?_getD,Qg hi'];rfl]
 exact this
def gO (wh:Pt) (own:Bool) (f:Fe) (ho:Int):Bool :=
 if wh.wm=5 then decide (f.ho=ho)
 else if wh.wm=8 then decide (f.ho=ho) && !own
 else if wh.wm=6 then !decide (f.ho=ho)
 else if wh.wm=7 then true
 else if wh.wm=9 then decide (f.su=wh.su)
 else if wh.wm=10 then kh f.tr wh.tr
 else false
def fX (wh:Pt) (own u:Bool) (f:Fe) (ho:Int):Bool:=if wh.wm=4 then own else if u=false then false else gO wh own f ho
theorem uz {own:Bool} (h:¬wh.wm=4):fX wh own true f ho=gO wh own f ho:=by unfold fX;rw[if_neg h,if_neg (by simp)]
theorem zd (wh:Pt) (own:Bool) (kd:Int) (f:Fe) (ho:Int):dc wh own kd f ho=fX wh own (decide (kd=1)) f ho:=by
 unfold dc fX gO
 by_cases h:wh.wm=4
 ·simp only[if_pos h]
 ·simp only[if_neg h]
  by_cases k:kd=1 <;> simp[k]
end Go.Proofs.YtjmepebbcnhalaaGreat
