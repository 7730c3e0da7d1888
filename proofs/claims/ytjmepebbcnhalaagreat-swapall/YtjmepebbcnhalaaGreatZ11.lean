import Derived.Test.YtjmepebbcnhalaaGreatZ10
import Derived.ChangeSlices
import Derived.Test.YtjmepebbcnhalaaGreatZ9
import Derived.Laws.IdiomArrays
import Derived.ChangeAt
import Derived.Laws.Tables
import Derived.WalkMore
namespace Go.Proofs.YtjmepebbcnhalaaGreat
open Tryz
set_option maxHeartbeats 1000000
open Go.RowKit
variable {n ho:Int} {ps:List Pt} {w w':World} {base fuel i g o c k:Nat} {sp:Nat→Bool} {held:Bool} {v vr vf:Value} {t:Th} {f:Fe} {s:Sd} {e:Se} {F:List Fe} {wh:Pt} {R:List Rw} {P:Program} {Q:Exit→Act→World→Prop} {ops:Array Oper} {L:List Se}
theorem Dw (v:Value) (ps:List Pt) (w:World) (h:da w v ps) (hb:ps.length*40≤140737488355328):Calls prog 115 #[v] w fun e w'=>∃ u,e=.returned u∧bJ w' w.heap.size u ps∧w.grownBy w' none:=by
 obtain⟨i0,hi,hz0,hz1,hz2⟩:=mP info62;go_enter func115,ntmps115
 rcases h with ⟨rfl,rfl⟩ | ⟨ad,cap,rfl,hc,h⟩
 ·go_wp2;go_ret;exact⟨_,rfl,bJ.nil _ _,aw _ _⟩
 ·go_wp2_with (at_builtin;refine wpList_append_own_at _ rfl _ _ 109 rfl w.heap.size 62 i0 _ 8 40 underlying109 hi hz0 hz1 hz2 rfl (by decide) _ 0 [] rfl (bJ.nil w _) ad ps.length cap (et ps) rfl (fK ps) h (iR ps) (by unfold maxLen;omega) (by rw[Qa8];exact hb) (Qj _) ?_;intro v1 w1 o1 g1 _ _)
  go_ret;refine⟨_,rfl,?_,g1⟩;simpa [bJ] using o1


set_option maxRecDepth 100000
open Go.ChangeShapes Go.WideShapes Go.ChangeAt Go.Deep
theorem m9 (h:(Lit.int .u8 n).wf=true):0≤n∧n≤255:=by
 simp[Lit.wf,IntKind.min,IntKind.max,IntKind.signed,IntKind.bits] at h;omega
theorem Dj (h:(Lit.int .u16 n).wf=true):0≤n∧n≤65535:=by
 simp[Lit.wf,IntKind.min,IntKind.max,IntKind.signed,IntKind.bits] at h;omega
theorem oh (h:(Lit.int .i64 n).wf=true):-9223372036854775808≤n∧n≤9223372036854775807:=by
 have h1:IntKind.i64.min=-9223372036854775808:=rfl;have h2:IntKind.i64.max=9223372036854775807:=rfl;simp[Lit.wf,h1,h2] at h;omega
theorem Ie {h:Hd} (k:Hwf h) (q:∀ p∈ps,Pwf p):(h.with ps).wf:=⟨m9 k.su,m9 k.kd,oh k.co,oh k.po,oh k.he,Dj k.tr,fun p hp=>⟨m9 (q p hp).wn,m9 (q p hp).vb,m9 (q p hp).wm,oh (q p hp).ct,m9 (q p hp).su,m9 (q p hp).tr,m9 (q p hp).mr⟩⟩
theorem cells115'':prog.cellsOf 115=4:=by kernel_rfl
theorem cells60'':prog.cellsOf 60=1:=by kernel_rfl
theorem vR {H:Type} {enc:TypeId×Value→H} {l:List Value} {x:DataW H×List MemPlace} (hsz:l.length=4) (hf:DataW.trod enc prog w base sp held fuel 115 l=some x):∃ m:Mk,l=mvs m∧(0≤m.mi∧m.mi≤255):=by
 obtain⟨c0,c1,c2,c3,rfl⟩:∃ c0 c1 c2 c3,l=[c0,c1,c2,c3]:=by
  match l,hsz with
  | [c0,c1,c2,c3],_=>exact⟨c0,c1,c2,c3,rfl⟩
 obtain⟨xs,n,_,hx,_,hlen,hfl⟩:=Qb9 underlying115 hf
 match xs,hlen with
 | [y0,y1,y2,y3],_ =>
  have t0:DataW.trod enc prog w base sp held n 60 (([c0,c1,c2,c3].drop 0).take (prog.cellsOf 60))=some y0:=hfl 0 _ rfl;have t1:DataW.trod enc prog w base sp held n 9 (([c0,c1,c2,c3].drop 1).take (prog.cellsOf 9))=some y1:=hfl 1 _ rfl;have t2:DataW.trod enc prog w base sp held n 3 (([c0,c1,c2,c3].drop 2).take (prog.cellsOf 3))=some y2:=hfl 2 _ rfl;have t3:DataW.trod enc prog w base sp held n 3 (([c0,c1,c2,c3].drop 3).take (prog.cellsOf 3))=some y3:=hfl 3 _ rfl;rw[cells60''] at t0;rw[cells9'] at t1;rw[cells3'] at t2 t3;obtain⟨z0,e0,_,w0⟩:=Qaa underlying60 (cs:=[c0]) t0;obtain⟨z1,e1,_,_⟩:=Qcs underlying9 (cs:=[c1]) t1;obtain⟨z2,e2,_,_⟩:=Qaa underlying3 (cs:=[c2]) t2;obtain⟨z3,e3,_,_⟩:=Qaa underlying3 (cs:=[c3]) t3;simp only[List.cons.injEq,and_true] at e0 e1 e2 e3;subst e0 e1 e2 e3;exact⟨⟨z0,z1,z2,z3⟩,rfl,by have h0:=w0;simp[Lit.wf,IntKind.min,IntKind.max,IntKind.signed,IntKind.bits] at h0;omega⟩
theorem HW:prog.bytesOf 111=80:=by kernel_rfl
theorem I3:prog.bytesOf 115=40:=by kernel_rfl
theorem pJ {H:Type} {P:Program} {e:TypeId} {n:Nat}:∀ {l:List (DataW H)} {d:DataW H},d∈l→n∈d.weights P e→n∈DataW.weightsAll P e l
 | x :: r,d,hd,hn=>by
  simp only[DataW.weightsAll,List.mem_append]
  rcases Qbo.1 hd with rfl | hd
  ·exact Or.inl hn
  ·exact Or.inr (pJ hd hn)
theorem xl {H:Type} {enc:TypeId×Value→H} {x:DataW H×List MemPlace}
  (h:DataW.trod enc prog w base sp held fuel 22 [v]=some x) (hz:∀ n∈x.1.weights prog 22,n≤reachBytes):∃ cs:List Ent,(∃ a k,v=.slice a cs.length k∧(0<cs.length→∃ g o,a=some ⟨g,o,none⟩∧mI w g o cs))∧(∀ e∈cs,da w e.v e.ps∧kg e.ps.length∧(e.h.with e.ps).wf)∧bl cs.length:=by
 rcases open_slice underlying22 h with ⟨hcs,_⟩ | ⟨a,len,cp,m,f,D,Pl,hcs,_,hl,hm,hmm,hxx,hx⟩
 ·simp at hcs;subst hcs;exact⟨[],⟨none,0,rfl,fun h0=>by simp at h0⟩,by simp,by unfold bl;decide⟩
 ·simp at hcs;subst hcs;rw[cells111'] at hx;have hnm:len≤m:=by rw[hmm];split <;> omega
  have hp:∀ i,i<len→∃ e:Ent,(da w e.v e.ps∧kg e.ps.length∧(e.h.with e.ps).wf)∧∀ k u,(cvs e.h e.v)[k]?=some u→w.cell? ((a.add (i*9)).add k)=some u:=fun i hi=>by
   obtain⟨cs',h1,h2⟩:=hx i (by omega);obtain⟨_,hlen,hc⟩:=Qct h1
   obtain⟨hd,u,ps,e,p1,p2,p3⟩:=wS hlen h2 (fun n hn=>hz n (by
    rw[hxx];simp only[DataW.weights,underlying22]
    exact Qar _ (List.mem_append_left _ (pJ (List.mem_map.2 ⟨i,Qdb.2 hi,rfl⟩) hn))))
   subst e;refine⟨⟨hd,u,ps⟩,⟨p1,p2,Ie p3.1 p3.2⟩,fun k y hk=>?_⟩;have hk9:k<9:=(Qh hk).1;rw[hc k hk9];exact hk
  haveI:Inhabited Ent:=⟨⟨Hd.none,.bool false,[]⟩⟩
  obtain⟨F,hF⟩:=choose_lt (α:=Ent) hp;refine⟨(List.range len).map F,⟨some a,cp,by simp,fun h0=>?_⟩,?_,?_⟩
  ·have h0':0<len:=(by simpa using h0);have c0:=(hF 0 h0').2 0 _ rfl;have ex:(a.add (0*9)).add 0=a:=(by simp[Addr.add]);rw[ex] at c0;have pl:=gO c0;refine⟨a.block,a.off,by rw[←pl],fun j e he=>?_⟩;have hj:j<len:=(by have:=(Qh he).1;simpa using this);obtain rfl:e=F j:=by simp[hj] at he;exact he.symm
   have at_:∀ k u,(cvs (F j).h (F j).v)[k]?=some u→w.cell? ⟨a.block,a.off+j*9+k,none⟩=some u:=fun k u hk=>by
    have:=(hF j hj).2 k u hk;rw[mO pl,pl,dq,←Qcz] at this;exact this
   exact⟨at_ 0 _ rfl,at_ 1 _ rfl,at_ 2 _ rfl,at_ 3 _ rfl,at_ 4 _ rfl,at_ 5 _ rfl,at_ 6 _ rfl,at_ 7 _ rfl,at_ 8 _ rfl⟩
  ·intro e he;obtain⟨i,hi,rfl⟩:=List.mem_map.1 he;exact(hF i (Qdb.1 hi)).1
  ·have hb:=hz ((len+(m - len))*80) (by rw[hxx];simp[DataW.weights,underlying22,HW]);unfold reachBytes at hb;unfold bl;simp only[List.length_map,List.length_range];omega
theorem wK {H:Type} {enc:TypeId×Value→H} {x:DataW H×List MemPlace}
  (h:DataW.trod enc prog w base sp held fuel 23 [v]=some x) (hz:∀ n∈x.1.weights prog 23,n≤reachBytes):∃ ms:List Mk,(∃ a k,v=.slice a ms.length k∧(0<ms.length→∃ g o,a=some ⟨g,o,none⟩∧MAt w g o ms))∧(∀ m∈ms,0≤m.mi∧m.mi≤255)∧bl ms.length:=by
 rcases open_slice underlying23 h with ⟨hcs,_⟩ | ⟨a,len,cp,m,f,D,Pl,hcs,_,hl,hm,hmm,hxx,hx⟩
 ·simp at hcs;subst hcs;exact⟨[],⟨none,0,rfl,fun h0=>by simp at h0⟩,by simp,by unfold bl;decide⟩
 ·simp at hcs;subst hcs;rw[cells115''] at hx;have hnm:len≤m:=by rw[hmm];split <;> omega
  have hp:∀ i,i<len→∃ e:Mk,(0≤e.mi∧e.mi≤255)∧∀ k u,(mvs e)[k]?=some u→w.cell? ((a.add (i*4)).add k)=some u:=fun i hi=>by
   obtain⟨cs',h1,h2⟩:=hx i (by omega);obtain⟨_,hlen,hc⟩:=Qct h1;obtain⟨e,he,hr⟩:=vR hlen h2;subst he;refine⟨e,hr,fun k y hk=>?_⟩;have hk4:k<4:=(Qh hk).1;rw[hc k hk4];exact hk
  haveI:Inhabited Mk:=⟨Mk.none⟩
  obtain⟨F,hF⟩:=choose_lt (α:=Mk) hp
  refine⟨(List.range len).map F,⟨some a,cp,by simp,fun h0=>?_⟩,fun m hm=>by obtain⟨i,hi,rfl⟩:=List.mem_map.1 hm;exact(hF i (Qdb.1 hi)).1,by
   have hb:=hz ((len+(m - len))*40) (by rw[hxx];simp[DataW.weights,underlying23,I3]);unfold reachBytes at hb;unfold bl;simp only[List.length_map,List.length_range]
   omega⟩
  have h0':0<len:=by simpa using h0
  have c0:=(hF 0 h0').2 0 _ rfl;have ex:(a.add (0*4)).add 0=a:=by simp[Addr.add]
  rw[ex] at c0;have pl:=gO c0;refine⟨a.block,a.off,by rw[←pl],fun j e he=>?_⟩;have hj:j<len:=by have:=(Qh he).1;simpa using this
  obtain rfl:e=F j:=by simp[hj] at he;exact he.symm
  have at_:∀ k u,(mvs (F j))[k]?=some u→w.cell? ⟨a.block,a.off+j*4+k,none⟩=some u:=fun k u hk=>by
   have:=(hF j hj).2 k u hk;rw[mO pl,pl,dq,←Qcz] at this;exact this
  exact⟨at_ 0 _ rfl,at_ 1 _ rfl,at_ 2 _ rfl,at_ 3 _ rfl⟩
structure FiA (w:World) (vc vm:Value) (cs:List Ent) (ms:List Mk):Prop where
 c:∃ a k,vc=.slice a cs.length k∧(0<cs.length→∃ g o,a=some ⟨g,o,none⟩∧mI w g o cs)
 m:∃ a k,vm=.slice a ms.length k∧(0<ms.length→∃ g o,a=some ⟨g,o,none⟩∧MAt w g o ms)
 ps:∀ e∈cs,da w e.v e.ps∧kg e.ps.length∧(e.h.with e.ps).wf
 mr:∀ m∈ms,0≤m.mi∧m.mi≤255
 cz:bl cs.length
 mz:bl ms.length
theorem FiA.keep {vc vm:Value} {cs:List Ent} {ms:List Mk} (h:FiA w vc vm cs ms) (g:w.grownBy w' none):FiA w' vc vm cs ms:=by
 obtain⟨⟨a,k,e,h1⟩,⟨c,m,i,h3⟩,h4,h5,h6,h7⟩:=h;refine⟨⟨a,k,e,fun h0=>?_⟩,⟨c,m,i,fun h0=>?_⟩,fun e he=>⟨(h4 e he).1.keep g,(h4 e he).2⟩,h5,h6,h7⟩
 ·obtain⟨x,o,e1,e2⟩:=h1 h0;exact⟨x,o,e1,e2.keep g⟩
 ·obtain⟨x,o,e1,e2⟩:=h3 h0;exact⟨x,o,e1,e2.keep g⟩
theorem uD:prog.cellsOf 25=3:=by kernel_rfl
theorem cells22'':prog.cellsOf 22=1:=by kernel_rfl
theorem cells4'':prog.cellsOf 4=1:=by kernel_rfl
theorem cells23'':prog.cellsOf 23=1:=by kernel_rfl
theorem Tryz.own:ownKnob prog.godebug=none:=by kernel_rfl
theorem laidOut:laidOutB prog=true:=by kernel_rfl
def thv (t:Th):Value:=.agg #[.int .i64 t.card,.int .i64 t.owner,.int .u8 t.place,.int .i64 t.stamp,.int .i64 t.hurt,.int .i64 t.m0,.int .i64 t.m1,.int .i64 t.m2,.int .i64 t.m3,.int .i64 t.done,.bool t.fresh]
theorem lM (h:(Lit.int .i64 n).wf=true):InI n:=oh h
theorem si:prog.cellsOf 3=1:=by kernel_rfl
theorem cOfB:prog.cellsOf 4=1:=by kernel_rfl
theorem If:prog.cellsOf 117=1:=by kernel_rfl
theorem Il:prog.cellsOf 58=1:=by kernel_rfl
theorem FW:prog.cellsOf 108=1:=by kernel_rfl
theorem cOf4:prog.cellsOf 118=4:=by kernel_rfl
theorem Iq:prog.cellsOf 122=5:=by kernel_rfl
theorem I9:prog.cellsOf 120=11:=by kernel_rfl
theorem wg {H:Type} {enc:TypeId×Value→H} {c0 c1 c2 c3:Value} {x:DataW H×List MemPlace} (hf:DataW.trod enc prog w base sp held fuel 118 [c0,c1,c2,c3]=some x):∃ z0 z1 z2 z3:Int,c0=.int .i64 z0∧c1=.int .i64 z1∧c2=.int .i64 z2∧c3=.int .i64 z3∧InI z0∧InI z1∧InI z2∧InI z3:=by
 obtain⟨y0,y1,y2,y3,m,hx,hy0,hy1,hy2,hy3⟩:=trod_array4 underlying118 si hf;obtain⟨x0,e0,_,w0⟩:=Qaa underlying3 hy0;obtain⟨x1,e1,_,w1⟩:=Qaa underlying3 hy1;obtain⟨x2,e2,_,w2⟩:=Qaa underlying3 hy2;obtain⟨x3,e3,_,w3⟩:=Qaa underlying3 hy3;simp only[List.cons.injEq,and_true] at e0 e1 e2 e3;exact⟨x0,x1,x2,x3,e0,e1,e2,e3,lM w0,lM w1,lM w2,lM w3⟩
end Go.Proofs.YtjmepebbcnhalaaGreat
namespace Go.Proofs.YtjmepebbcnhalaaGreat
open Tryz
open Go.RowKit
variable {n ho:Int} {ps:List Pt} {w w':World} {base fuel i g o c k:Nat} {sp:Nat→Bool} {held:Bool} {v vr vf:Value} {t:Th} {f:Fe} {s:Sd} {e:Se} {F:List Fe} {wh:Pt} {R:List Rw} {P:Program} {Q:Exit→Act→World→Prop} {ops:Array Oper} {L:List Se}
structure Rv where
 r:Rw
 pa:Option Addr
 ca:Nat
def Rv.u (x:Rv):Value:=.slice x.pa x.r.ps.length x.ca
def rws (X:List Rv):List Rw:=X.map Rv.r
theorem fP (X:List Rv):(rws X).length=X.length:=Qa9 _
theorem jD {X:List Rv} (h:i<X.length):(rws X).getD i Rw.none=X[i].r:=by
 unfold rws;rw[Qa2,Qak,Qg h];rfl
def thc (t:Th):List Value:=[.int .i64 t.card,.int .i64 t.owner,.int .u8 t.place,.int .i64 t.stamp,.int .i64 t.hurt,.int .i64 t.m0,.int .i64 t.m1,.int .i64 t.m2,.int .i64 t.m3,.int .i64 t.done,.bool t.fresh]
theorem Bl (t:Th):∀ v∈thc t,v.oneCell'=true:=fun v h=>by
 simp only[thc,List.mem_cons,List.not_mem_nil,or_false] at h
 rcases h with h | h | h | h | h | h | h | h | h | h | h <;> (subst h;rfl)
def thR:aB Th:=⟨11,thc,fun _=>rfl,Bl,by decide⟩
theorem aZ (h:w.rangeAt g o (thc t)):w.cell? ⟨g,o,none⟩=some (.int .i64 t.card)∧w.cell? ⟨g,o+1,none⟩=some (.int .i64 t.owner)∧w.cell? ⟨g,o+2,none⟩=some (.int .u8 t.place)∧w.cell? ⟨g,o+3,none⟩=some (.int .i64 t.stamp)∧w.cell? ⟨g,o+4,none⟩=some (.int .i64 t.hurt)∧w.cell? ⟨g,o+5,none⟩=some (.int .i64 t.m0)∧w.cell? ⟨g,o+6,none⟩=some (.int .i64 t.m1)∧w.cell? ⟨g,o+7,none⟩=some (.int .i64 t.m2)∧w.cell? ⟨g,o+8,none⟩=some (.int .i64 t.m3)∧w.cell? ⟨g,o+9,none⟩=some (.int .i64 t.done)∧w.cell? ⟨g,o+10,none⟩=some (.bool t.fresh) :=
 ⟨h 0 _ rfl,h 1 _ rfl,h 2 _ rfl,h 3 _ rfl,h 4 _ rfl,h 5 _ rfl,h 6 _ rfl,h 7 _ rfl,h 8 _ rfl,h 9 _ rfl,h 10 _ rfl⟩
def ThB (w:World) (g:Nat) (t:Th):Prop:=w.heap[g]?=some (.cells #[.int .i64 t.card,.int .i64 t.owner,.int .u8 t.place,.int .i64 t.stamp,.int .i64 t.hurt,.int .i64 t.m0,.int .i64 t.m1,.int .i64 t.m2,.int .i64 t.m3,.int .i64 t.done,.bool t.fresh] 120 (0,0))
theorem dD (h:ThB w g t):w.cell? ⟨g,0,none⟩=some (.int .i64 t.card)∧w.cell? ⟨g,1,none⟩=some (.int .i64 t.owner)∧w.cell? ⟨g,2,none⟩=some (.int .u8 t.place)∧w.cell? ⟨g,3,none⟩=some (.int .i64 t.stamp)∧w.cell? ⟨g,4,none⟩=some (.int .i64 t.hurt)∧w.cell? ⟨g,5,none⟩=some (.int .i64 t.m0)∧w.cell? ⟨g,6,none⟩=some (.int .i64 t.m1)∧w.cell? ⟨g,7,none⟩=some (.int .i64 t.m2)∧w.cell? ⟨g,8,none⟩=some (.int .i64 t.m3)∧w.cell? ⟨g,9,none⟩=some (.int .i64 t.done)∧w.cell? ⟨g,10,none⟩=some (.bool t.fresh) :=
 ⟨(ae h 0).trans rfl,(ae h 1).trans rfl,(ae h 2).trans rfl,(ae h 3).trans rfl,(ae h 4).trans rfl,(ae h 5).trans rfl,(ae h 6).trans rfl,(ae h 7).trans rfl,(ae h 8).trans rfl,(ae h 9).trans rfl,(ae h 10).trans rfl⟩
def fec (f:Fe):List Value:=[.int .i64 f.ho,.int .u8 f.su,.int .u16 f.tr,.int .i64 f.po,.int .i64 f.he]
theorem Ci (f:Fe):∀ v∈fec f,v.oneCell'=true:=fun v h=>by
 simp only[fec,List.mem_cons,List.not_mem_nil,or_false] at h
 rcases h with h | h | h | h | h <;> (subst h;rfl)
def feR:aB Fe:=⟨5,fec,fun _=>rfl,Ci,by decide⟩
theorem bP (h:w.rangeAt g o (fec f)):w.cell? ⟨g,o,none⟩=some (.int .i64 f.ho)∧w.cell? ⟨g,o+1,none⟩=some (.int .u8 f.su)∧w.cell? ⟨g,o+2,none⟩=some (.int .u16 f.tr)∧w.cell? ⟨g,o+3,none⟩=some (.int .i64 f.po)∧w.cell? ⟨g,o+4,none⟩=some (.int .i64 f.he) :=
 ⟨h 0 _ rfl,h 1 _ rfl,h 2 _ rfl,h 3 _ rfl,h 4 _ rfl⟩
def FeB (w:World) (g:Nat) (f:Fe):Prop:=w.heap[g]?=some (.cells #[.int .i64 f.ho,.int .u8 f.su,.int .u16 f.tr,.int .i64 f.po,.int .i64 f.he] 122 (0,0))
theorem kq (h:FeB w g f):w.cell? ⟨g,0,none⟩=some (.int .i64 f.ho)∧w.cell? ⟨g,1,none⟩=some (.int .u8 f.su)∧w.cell? ⟨g,2,none⟩=some (.int .u16 f.tr)∧w.cell? ⟨g,3,none⟩=some (.int .i64 f.po)∧w.cell? ⟨g,4,none⟩=some (.int .i64 f.he) :=
 ⟨(ae h 0).trans rfl,(ae h 1).trans rfl,(ae h 2).trans rfl,(ae h 3).trans rfl,(ae h 4).trans rfl⟩
def sdc (s:Sd):List Value:=[.int .i64 s.th,.int .i64 s.pl,.int .u8 s.wh.wn,.int .u8 s.wh.vb,.int .u8 s.wh.wm,.int .i64 s.wh.ct,.int .u8 s.wh.su,.int .u8 s.wh.tr,.int .u8 s.wh.mr,.string s.wh.nm]
def sdv (s:Sd):Value:=.agg #[.int .i64 s.th,.int .i64 s.pl,.int .u8 s.wh.wn,.int .u8 s.wh.vb,.int .u8 s.wh.wm,.int .i64 s.wh.ct,.int .u8 s.wh.su,.int .u8 s.wh.tr,.int .u8 s.wh.mr,.string s.wh.nm]
theorem fx (s:Sd):∀ v∈sdc s,v.oneCell'=true:=fun v h=>by
 simp only[sdc,List.mem_cons,List.not_mem_nil,or_false] at h
 rcases h with h | h | h | h | h | h | h | h | h | h <;> (subst h;rfl)
def sdR:aB Sd:=⟨10,sdc,fun _=>rfl,fx,by decide⟩
theorem bu (h:w.rangeAt g o (sdc s)):w.cell? ⟨g,o,none⟩=some (.int .i64 s.th)∧w.cell? ⟨g,o+1,none⟩=some (.int .i64 s.pl)∧w.cell? ⟨g,o+2,none⟩=some (.int .u8 s.wh.wn)∧w.cell? ⟨g,o+3,none⟩=some (.int .u8 s.wh.vb)∧w.cell? ⟨g,o+4,none⟩=some (.int .u8 s.wh.wm)∧w.cell? ⟨g,o+5,none⟩=some (.int .i64 s.wh.ct)∧w.cell? ⟨g,o+6,none⟩=some (.int .u8 s.wh.su)∧w.cell? ⟨g,o+7,none⟩=some (.int .u8 s.wh.tr)∧w.cell? ⟨g,o+8,none⟩=some (.int .u8 s.wh.mr)∧w.cell? ⟨g,o+9,none⟩=some (.string s.wh.nm) :=
 ⟨h 0 _ rfl,h 1 _ rfl,h 2 _ rfl,h 3 _ rfl,h 4 _ rfl,h 5 _ rfl,h 6 _ rfl,h 7 _ rfl,h 8 _ rfl,h 9 _ rfl⟩
def SdB (w:World) (g:Nat) (s:Sd):Prop:=w.heap[g]?=some (.cells #[.int .i64 s.th,.int .i64 s.pl,.int .u8 s.wh.wn,.int .u8 s.wh.vb,.int .u8 s.wh.wm,.int .i64 s.wh.ct,.int .u8 s.wh.su,.int .u8 s.wh.tr,.int .u8 s.wh.mr,.string s.wh.nm] 64 (0,0))
theorem aQ (h:SdB w g s):w.cell? ⟨g,0,none⟩=some (.int .i64 s.th)∧w.cell? ⟨g,1,none⟩=some (.int .i64 s.pl)∧w.cell? ⟨g,2,none⟩=some (.int .u8 s.wh.wn)∧w.cell? ⟨g,3,none⟩=some (.int .u8 s.wh.vb)∧w.cell? ⟨g,4,none⟩=some (.int .u8 s.wh.wm)∧w.cell? ⟨g,5,none⟩=some (.int .i64 s.wh.ct)∧w.cell? ⟨g,6,none⟩=some (.int .u8 s.wh.su)∧w.cell? ⟨g,7,none⟩=some (.int .u8 s.wh.tr)∧w.cell? ⟨g,8,none⟩=some (.int .u8 s.wh.mr)∧w.cell? ⟨g,9,none⟩=some (.string s.wh.nm) :=
 ⟨(ae h 0).trans rfl,(ae h 1).trans rfl,(ae h 2).trans rfl,(ae h 3).trans rfl,(ae h 4).trans rfl,(ae h 5).trans rfl,(ae h 6).trans rfl,(ae h 7).trans rfl,(ae h 8).trans rfl,(ae h 9).trans rfl⟩
def sec (e:Se):List Value:=[.int .i64 e.s.th,.int .i64 e.s.pl,.int .u8 e.s.wh.wn,.int .u8 e.s.wh.vb,.int .u8 e.s.wh.wm,.int .i64 e.s.wh.ct,.int .u8 e.s.wh.su,.int .u8 e.s.wh.tr,.int .u8 e.s.wh.mr,.string e.s.wh.nm,.int .i64 (e.ro:Int)]
def sev (e:Se):Value:=.agg #[.int .i64 e.s.th,.int .i64 e.s.pl,.int .u8 e.s.wh.wn,.int .u8 e.s.wh.vb,.int .u8 e.s.wh.wm,.int .i64 e.s.wh.ct,.int .u8 e.s.wh.su,.int .u8 e.s.wh.tr,.int .u8 e.s.wh.mr,.string e.s.wh.nm,.int .i64 (e.ro:Int)]
theorem nJ (e:Se):∀ v∈sec e,v.oneCell'=true:=fun v h=>by
 simp only[sec,List.mem_cons,List.not_mem_nil,or_false] at h
 rcases h with h | h | h | h | h | h | h | h | h | h | h <;> (subst h;rfl)
def seR:aB Se:=⟨11,sec,fun _=>rfl,nJ,by decide⟩
theorem uL (h:w.rangeAt g o (sec e)):w.cell? ⟨g,o,none⟩=some (.int .i64 e.s.th)∧w.cell? ⟨g,o+1,none⟩=some (.int .i64 e.s.pl)∧w.cell? ⟨g,o+2,none⟩=some (.int .u8 e.s.wh.wn)∧w.cell? ⟨g,o+3,none⟩=some (.int .u8 e.s.wh.vb)∧w.cell? ⟨g,o+4,none⟩=some (.int .u8 e.s.wh.wm)∧w.cell? ⟨g,o+5,none⟩=some (.int .i64 e.s.wh.ct)∧w.cell? ⟨g,o+6,none⟩=some (.int .u8 e.s.wh.su)∧w.cell? ⟨g,o+7,none⟩=some (.int .u8 e.s.wh.tr)∧w.cell? ⟨g,o+8,none⟩=some (.int .u8 e.s.wh.mr)∧w.cell? ⟨g,o+9,none⟩=some (.string e.s.wh.nm)∧w.cell? ⟨g,o+10,none⟩=some (.int .i64 (e.ro:Int)) :=
 ⟨h 0 _ rfl,h 1 _ rfl,h 2 _ rfl,h 3 _ rfl,h 4 _ rfl,h 5 _ rfl,h 6 _ rfl,h 7 _ rfl,h 8 _ rfl,h 9 _ rfl,h 10 _ rfl⟩
def SeB (w:World) (g:Nat) (e:Se):Prop:=w.heap[g]?=some (.cells #[.int .i64 e.s.th,.int .i64 e.s.pl,.int .u8 e.s.wh.wn,.int .u8 e.s.wh.vb,.int .u8 e.s.wh.wm,.int .i64 e.s.wh.ct,.int .u8 e.s.wh.su,.int .u8 e.s.wh.tr,.int .u8 e.s.wh.mr,.string e.s.wh.nm,.int .i64 (e.ro:Int)] 131 (0,0))
theorem pH (h:SeB w g e):w.cell? ⟨g,0,none⟩=some (.int .i64 e.s.th)∧w.cell? ⟨g,1,none⟩=some (.int .i64 e.s.pl)∧w.cell? ⟨g,2,none⟩=some (.int .u8 e.s.wh.wn)∧w.cell? ⟨g,3,none⟩=some (.int .u8 e.s.wh.vb)∧w.cell? ⟨g,4,none⟩=some (.int .u8 e.s.wh.wm)∧w.cell? ⟨g,5,none⟩=some (.int .i64 e.s.wh.ct)∧w.cell? ⟨g,6,none⟩=some (.int .u8 e.s.wh.su)∧w.cell? ⟨g,7,none⟩=some (.int .u8 e.s.wh.tr)∧w.cell? ⟨g,8,none⟩=some (.int .u8 e.s.wh.mr)∧w.cell? ⟨g,9,none⟩=some (.string e.s.wh.nm)∧w.cell? ⟨g,10,none⟩=some (.int .i64 (e.ro:Int)) :=
 ⟨(ae h 0).trans rfl,(ae h 1).trans rfl,(ae h 2).trans rfl,(ae h 3).trans rfl,(ae h 4).trans rfl,(ae h 5).trans rfl,(ae h 6).trans rfl,(ae h 7).trans rfl,(ae h 8).trans rfl,(ae h 9).trans rfl,(ae h 10).trans rfl⟩
def rvc (x:Rv):List Value:=[.int .i64 x.r.nu,.int .i64 x.r.st,.string x.r.h.nm,.int .u8 x.r.h.su,.int .u8 x.r.h.kd,.int .i64 x.r.h.co,.int .i64 x.r.h.po,.int .i64 x.r.h.he,.int .u16 x.r.h.tr,.bool x.r.h.tk,x.u]
theorem uc (x:Rv):∀ v∈rvc x,v.oneCell'=true:=fun v h=>by
 simp only[rvc,List.mem_cons,List.not_mem_nil,or_false] at h
 rcases h with h | h | h | h | h | h | h | h | h | h | h <;> (subst h;rfl)
def rvR:aB Rv:=⟨11,rvc,fun _=>rfl,uc,by decide⟩
theorem iC {x:Rv} (h:w.rangeAt g o (rvc x)):w.cell? ⟨g,o,none⟩=some (.int .i64 x.r.nu)∧w.cell? ⟨g,o+1,none⟩=some (.int .i64 x.r.st)∧w.cell? ⟨g,o+2,none⟩=some (.string x.r.h.nm)∧w.cell? ⟨g,o+3,none⟩=some (.int .u8 x.r.h.su)∧w.cell? ⟨g,o+4,none⟩=some (.int .u8 x.r.h.kd)∧w.cell? ⟨g,o+5,none⟩=some (.int .i64 x.r.h.co)∧w.cell? ⟨g,o+6,none⟩=some (.int .i64 x.r.h.po)∧w.cell? ⟨g,o+7,none⟩=some (.int .i64 x.r.h.he)∧w.cell? ⟨g,o+8,none⟩=some (.int .u16 x.r.h.tr)∧w.cell? ⟨g,o+9,none⟩=some (.bool x.r.h.tk)∧w.cell? ⟨g,o+10,none⟩=some (x.u) :=
 ⟨h 0 _ rfl,h 1 _ rfl,h 2 _ rfl,h 3 _ rfl,h 4 _ rfl,h 5 _ rfl,h 6 _ rfl,h 7 _ rfl,h 8 _ rfl,h 9 _ rfl,h 10 _ rfl⟩
def tbv (vr vf:Value):Value:=.agg #[vr,vf]
def TbB (w:World) (g:Nat) (vr vf:Value):Prop:=w.heap[g]?=some (.cells #[vr,vf] 125 (0,0))
theorem iV (h:TbB w g vr vf):w.cell? ⟨g,0,none⟩=some vr∧w.cell? ⟨g,1,none⟩=some vf:=⟨(ae h 0).trans rfl,(ae h 1).trans rfl⟩
structure jj (w:World) (vr vf:Value) (X:List Rv) (F:List Fe):Prop where
 rows:rvR.At w vr X
 parts:∀ x∈X,da w x.u x.r.ps∧x.r.ps.length≤4
 fs:feR.At w vf F
 len:F.length=X.length
 few:X.length≤16
theorem jj.keep {X:List Rv} (h:jj w vr vf X F) (g:w.grownBy w' none):jj w' vr vf X F:=⟨h.rows.keep g,fun x hx=>⟨(h.parts x hx).1.keep g,(h.parts x hx).2⟩,h.fs.keep g,h.len,h.few⟩
theorem jj.row {X:List Rv} (h:jj w vr vf X F) {i:Nat} (hi:i<X.length):∃ g off cap,vr=.slice (some ⟨g,off,none⟩) X.length cap∧w.rangeAt g (off+i*11) (rvc X[i]):=h.rows.there hi
theorem jj.fe {X:List Rv} (h:jj w vr vf X F) {i:Nat} (hi:i<X.length):∃ g off cap,vf=.slice (some ⟨g,off,none⟩) F.length cap∧w.rangeAt g (off+i*5) (fec (F.getD i Fe.none)):=by
 have hi':i<F.length:=by rw[h.len];exact hi
 have:=h.fs.there hi';rw[show F.getD i Fe.none=F[i] from by rw[Qa2,Qg hi'];rfl];exact this
def gY (wh:Pt) (own:Bool) (f:Fe) (ho:Int):Bool :=
 if wh.wm=5 then decide (f.ho=ho)
 else if wh.wm=8 then decide (f.ho=ho) && !own
 else if wh.wm=6 then !decide (f.ho=ho)
 else if wh.wm=7 then true
 else if wh.wm=9 then decide (f.su=wh.su)
 else if wh.wm=10 then gH f.tr wh.tr
 else false
def eW (wh:Pt) (own u:Bool) (f:Fe) (ho:Int):Bool:=if wh.wm=4 then own else if u=false then false else gY wh own f ho
theorem wA {own:Bool} (h:¬wh.wm=4):eW wh own true f ho=gY wh own f ho:=by unfold eW;rw[if_neg h,if_neg (by simp)]
theorem B1 (wh:Pt) (own:Bool) (kd:Int) (f:Fe) (ho:Int):bR wh own kd f ho=eW wh own (decide (kd=1)) f ho:=by
 unfold bR eW gY;by_cases h:wh.wm=4
 ·simp only[if_pos h]
 ·simp only[if_neg h];by_cases k:kd=1 <;> simp[k]
set_option maxRecDepth 100000
set_option maxHeartbeats 4000000
theorem aI {a b:Bool} (h:a=b):Ending.returned (.bool a)=Ending.returned (.bool b):=by rw[h]
theorem j3 {a b:World} (h:a.grownBy b none) (hc:a.heap.size≤c) (v0 v1 v2 v3 v4 v5 v6:Value):a.grownBy (((((((b.setCell ⟨c,0,none⟩ v0).setCell ⟨c,1,none⟩ v1).setCell ⟨c,2,none⟩ v2).setCell ⟨c,3,none⟩ v3).setCell ⟨c,4,none⟩ v4).setCell ⟨c,5,none⟩ v5).setCell ⟨c,6,none⟩ v6) none:=ak h (((((((al _ _ _ _).trans (al _ _ _ _)).trans (al _ _ _ _)).trans (al _ _ _ _)).trans (al _ _ _ _)).trans (al _ _ _ _)).trans (al _ _ _ _)) (fun y e=>by cases e;exact hc)
theorem dY (a b:Int):(a == b)=decide (a=b):=by rw[Qd3];simp
theorem EO (a b:Int):(a != b)=!decide (a=b):=by rw[Qd3];simp
def cdv (f:Fe) (u o:Bool):Value:=.agg #[.int .i64 f.ho,.int .u8 f.su,.int .u16 f.tr,.int .i64 f.po,.int .i64 f.he,.bool u,.bool o]
def CdB (w:World) (g:Nat) (f:Fe) (u o:Bool):Prop:=w.heap[g]?=some (.cells #[.int .i64 f.ho,.int .u8 f.su,.int .u16 f.tr,.int .i64 f.po,.int .i64 f.he,.bool u,.bool o] 302 (0,0))
theorem rC {u o:Bool} (h:CdB w g f u o):w.cell? ⟨g,0,none⟩=some (.int .i64 f.ho)∧w.cell? ⟨g,1,none⟩=some (.int .u8 f.su)∧w.cell? ⟨g,2,none⟩=some (.int .u16 f.tr)∧w.cell? ⟨g,3,none⟩=some (.int .i64 f.po)∧w.cell? ⟨g,4,none⟩=some (.int .i64 f.he)∧w.cell? ⟨g,5,none⟩=some (.bool u)∧w.cell? ⟨g,6,none⟩=some (.bool o) :=
 ⟨(ae h 0).trans rfl,(ae h 1).trans rfl,(ae h 2).trans rfl,(ae h 3).trans rfl,(ae h 4).trans rfl,(ae h 5).trans rfl,(ae h 6).trans rfl⟩
def PqB (w:World) (n:Nat) (p:Pt):Prop:=w.heap[n]?=some (.cells #[.int .u8 p.wn,.int .u8 p.vb,.int .u8 p.wm,.int .i64 p.ct,.int .u8 p.su,.int .u8 p.tr,.int .u8 p.mr,.string p.nm] 62 (0,0))
theorem ye {p:Pt} (h:PqB w g p):w.cell? ⟨g,0,none⟩=some (.int .u8 p.wn)∧w.cell? ⟨g,1,none⟩=some (.int .u8 p.vb)∧w.cell? ⟨g,2,none⟩=some (.int .u8 p.wm)∧w.cell? ⟨g,3,none⟩=some (.int .i64 p.ct)∧w.cell? ⟨g,4,none⟩=some (.int .u8 p.su)∧w.cell? ⟨g,5,none⟩=some (.int .u8 p.tr)∧w.cell? ⟨g,6,none⟩=some (.int .u8 p.mr)∧w.cell? ⟨g,7,none⟩=some (.string p.nm) :=
 ⟨(ae h 0).trans rfl,(ae h 1).trans rfl,(ae h 2).trans rfl,(ae h 3).trans rfl,(ae h 4).trans rfl,(ae h 5).trans rfl,(ae h 6).trans rfl,(ae h 7).trans rfl⟩
theorem vQ (p:Pt) (ho:Int) (f:Fe) (u o:Bool) (w:World):Calls prog 272 #[pv p,.int .i64 ho,cdv f u o] w fun e w'=>e=.returned (.bool (gY p o f ho))∧w.grownBy w' none:=by
 obtain⟨W1,hW1⟩:=Qe ((w.alloc (.cells #[.int .u8 p.wn,.int .u8 p.vb,.int .u8 p.wm,.int .i64 p.ct,.int .u8 p.su,.int .u8 p.tr,.int .u8 p.mr,.string p.nm] 62)).alloc (.cells #[.int .i64 f.ho,.int .u8 f.su,.int .u16 f.tr,.int .i64 f.po,.int .i64 f.he,.bool u,.bool o] 302));have HG1:QH (w.grownBy W1 none):=by rw[hW1];exact am QG _
 have HP:QH (PqB W1 w.heap.size p):=by rw[hW1];exact ag QG (aj w _ _) (by simp)
 have HC:QH (CdB W1 (w.heap.size+1) f u o):=by rw[hW1];exact aT _ _ _ _
 unfold pv cdv;go_enter func272,ntmps272;go_upto_region 1 with fail;rw[←hW1];clear hW1;obtain⟨n0,h0⟩:=Qe (w.heap.size);simp only[←h0] at HP HC ⊢;obtain⟨n1,h1⟩:=Qe (n0+1);simp only[←h1] at HC ⊢;clear h0 h1;obtain⟨p0,p1,u4,p3,u6,u7,p6,p7⟩:=ye HP.o;obtain⟨q0,q1,q2,q3,q4,q5,q6⟩:=rC HC.o;clear p0 p1 p3 p6 p7 q3 q4 q5;by_cases d5:p.wm=5
 ·have HY:QH (gY p o f ho=(f.ho == ho)):=by show _=_;unfold gY;rw[if_pos d5];rw[dY]
  rw[d5] at u4;clear d5;go_wp2;go_ret;exact⟨aI HY.o.symm,HG1.o⟩
 by_cases d8:p.wm=8
 ·cases ho1:(f.ho == ho) with
  | true =>
   have hb:f.ho=ho:=(by simpa using ho1);have HY:QH (gY p o f ho=(!o)):=(by show _=_;unfold gY;rw[if_neg d5,if_pos d8];simp[hb]);rw[d8] at u4;clear hb d5 d8;go_wp2;go_ret;exact⟨aI HY.o.symm,HG1.o⟩
  | false =>
   have hb:¬f.ho=ho:=(by simpa using ho1);have HY:QH (gY p o f ho=false):=(by show _=_;unfold gY;rw[if_neg d5,if_pos d8];simp[hb]);rw[d8] at u4;clear hb d5 d8;go_wp2;go_ret;exact⟨aI HY.o.symm,HG1.o⟩
 by_cases d6:p.wm=6
 ·have HY:QH (gY p o f ho=(f.ho != ho)):=by show _=_;unfold gY;rw[if_neg d5,if_neg d8,if_pos d6];rw[EO]
  rw[d6] at u4;clear d5 d8 d6;go_wp2;go_ret;exact⟨aI HY.o.symm,HG1.o⟩
 by_cases d7:p.wm=7
 ·have HY:QH (gY p o f ho=true):=by show _=_;unfold gY;rw[if_neg d5,if_neg d8,if_neg d6,if_pos d7]
  rw[d7] at u4;clear d5 d8 d6 d7;go_wp2;go_ret;exact⟨aI HY.o.symm,HG1.o⟩
 by_cases d9:p.wm=9
 ·have HY:QH (gY p o f ho=(f.su == p.su)):=by show _=_;unfold gY;rw[if_neg d5,if_neg d8,if_neg d6,if_neg d7,if_pos d9];rw[dY]
  rw[d9] at u4;clear d5 d8 d6 d7 d9;go_wp2;go_ret;exact⟨aI HY.o.symm,HG1.o⟩
 by_cases d10:p.wm=10
 ·have HY:QH (gY p o f ho=(gH f.tr p.tr)):=by show _=_;unfold gY;rw[if_neg d5,if_neg d8,if_neg d6,if_neg d7,if_neg d9,if_pos d10]
  rw[d10] at u4;clear d5 d8 d6 d7 d9 d10;go_wp2_with (go_at_call 212;refine(mU _ _ _).mono ?_;rintro e3 w3 ⟨rfl,rfl⟩)
  go_ret;exact⟨aI HY.o.symm,HG1.o⟩
 have HY:QH (gY p o f ho=false):=by show _=_;unfold gY;rw[if_neg d5,if_neg d8,if_neg d6,if_neg d7,if_neg d9,if_neg d10]
 have k5:(p.wm == 5)=false:=by simpa using d5
 have k8:(p.wm == 8)=false:=by simpa using d8
 have k6:(p.wm == 6)=false:=by simpa using d6
 have k7:(p.wm == 7)=false:=by simpa using d7
 have k9:(p.wm == 9)=false:=by simpa using d9
 have k10:(p.wm == 10)=false:=by simpa using d10
 clear d5 d8 d6 d7 d9 d10;go_wp2;go_ret;exact⟨aI HY.o.symm,HG1.o⟩
theorem vP (p:Pt) (ho:Int) (f:Fe) (u o:Bool) (w:World):Calls prog 236 #[pv p,.int .i64 ho,cdv f u o] w fun e w'=>e=.returned (.bool (eW p o u f ho))∧w.grownBy w' none:=by
 have hU:=fun W=>vQ p ho f u o W;obtain⟨W1,hW1⟩:=Qe ((w.alloc (.cells #[.int .u8 p.wn,.int .u8 p.vb,.int .u8 p.wm,.int .i64 p.ct,.int .u8 p.su,.int .u8 p.tr,.int .u8 p.mr,.string p.nm] 62)).alloc (.cells #[.int .i64 f.ho,.int .u8 f.su,.int .u16 f.tr,.int .i64 f.po,.int .i64 f.he,.bool u,.bool o] 302));have HG1:QH (w.grownBy W1 none):=by rw[hW1];exact am QG _
 have HP:QH (PqB W1 w.heap.size p):=by rw[hW1];exact ag QG (aj w _ _) (by simp)
 have HC:QH (CdB W1 (w.heap.size+1) f u o):=by rw[hW1];exact aT _ _ _ _
 unfold pv cdv;go_enter func236,ntmps236;go_upto_region 1 with fail;rw[←hW1];clear hW1;obtain⟨n0,h0⟩:=Qe (w.heap.size);simp only[←h0] at HP HC ⊢;obtain⟨n1,h1⟩:=Qe (n0+1);simp only[←h1] at HC ⊢;clear h0 h1;unfold pv cdv at hU;obtain⟨p0,p1,u4,p3,u6,u7,p6,p7⟩:=ye HP.o;obtain⟨q0,q1,q2,q3,q4,q5,q6⟩:=rC HC.o;by_cases d4:p.wm=4
 ·have HY:QH (eW p o u f ho=o):=by show _=_;unfold eW;rw[if_pos d4]
  rw[d4] at u4;clear d4 hU;go_wp2;go_ret;exact⟨aI HY.o.symm,HG1.o⟩
 have k4:(p.wm == 4)=false:=by simpa using d4
 cases u with
 | false =>
  have HY:QH (eW p o false f ho=false):=by show _=_;unfold eW;rw[if_neg d4,if_pos rfl]
  clear d4 hU;go_wp2;go_ret;exact⟨aI HY.o.symm,HG1.o⟩
 | true =>
  have HY:QH (eW p o true f ho=gY p o f ho):=wA d4;clear d4;go_wp2_with (go_at_call 272;refine(hU _).mono ?_;rintro e3 w3 ⟨rfl,g3⟩;have HG3:QH (W1.grownBy w3 none):=g3)
  go_ret;exact⟨aI HY.o.symm,aa HG1.o HG3.o⟩
theorem gd (w:World) (o p:Obj) (cs:Array Value) (t:TypeId):(((w.alloc o).alloc p).alloc (.cells cs t)).heap[w.heap.size+1+1]?=some (.cells cs t (0,0)):=by have:=aj ((w.alloc o).alloc p) cs t;rwa [Qa3,Qa3] at this
theorem ar {a b:World} (h:a.grownBy b none) (hc:a.heap.size≤c) (i:Nat) (v:Value):a.grownBy (b.setCell ⟨c,i,none⟩ v) none:=ak h (al _ _ _ _) (fun y e=>by cases e;exact hc)
theorem sixteen {α:Type}:∀ l:List α,l.length=16→∃ b0 b1 b2 b3 b4 b5 b6 b7 b8 b9 b10 b11 b12 b13 b14 b15,l=[b0,b1,b2,b3,b4,b5,b6,b7,b8,b9,b10,b11,b12,b13,b14,b15]
 | [b0,b1,b2,b3,b4,b5,b6,b7,b8,b9,b10,b11,b12,b13,b14,b15],_=>⟨b0,b1,b2,b3,b4,b5,b6,b7,b8,b9,b10,b11,b12,b13,b14,b15,rfl⟩
theorem cj {n k:Nat} (h:k<n):n - (intOf (.int .i64 ((k:Int)+1))).toNat<n - (intOf (.int .i64 (k:Int))).toNat:=by
 show n - ((k:Int)+1).toNat<n - (k:Int).toNat;omega
def nk (R:List Rw) (l:List Bool) (k:Nat):List Int:=(List.range k).filterMap fun i=>if l.getD i false then some (R.getD i Rw.none).nu else none
def fC (R:List Rw) (l:List Bool):List Int:=nk R l R.length
theorem Cp {l:List Bool} (h:l.getD k false=true):nk R l (k+1)=nk R l k++[(R.getD k Rw.none).nu]:=by
 unfold nk;rw[Qbu,Qcv,Qd0,h];rfl
theorem F4 {l:List Bool} (h:l.getD k false=false):nk R l (k+1)=nk R l k:=by
 unfold nk;rw[Qbu,Qcv,Qd0,h];simp
theorem nt (R:List Rw) (l:List Bool) (k:Nat):(nk R l k).length≤k:=by
 have:=List.length_filterMap_le (fun i=>if l.getD i false then some (R.getD i Rw.none).nu else none) (List.range k);rwa [Qc0] at this
theorem lk (l:List Int):∀ u∈dt l,u.oneCell'=true:=fun u h=>by
 unfold dt at h;obtain⟨z,_,rfl⟩:=List.mem_map.1 h;rfl
def bm (w:World) (base:Nat) (v:Value) (l:List Int):Prop:=w.ownsRow base 3 1 v l.length (dt l)
theorem bm.form {l:List Int} (h:bm w base v l):∃ p c,v=.slice p l.length c:=by
 obtain⟨p,c,e,_⟩:=bZ h;exact⟨p,c,e⟩
theorem nD (U:World) (x:Int):∀ j u,(dt [x])[j]?=some u→(U.alloc (.cells #[.int .i64 x] 3)).cell? ((⟨U.heap.size,0,none⟩:Addr).add j)=some u:=fun j u hu=>by
 rw[kh,Qa8,ae (aj _ _ _)];simpa [dt] using hu
theorem lJ {n:Nat} {l:List Int} {x:Int} (h:w'.ownsRow base 3 1 v (n+1) (dt l++dt [x])) (hn:n=l.length):bm w' base v (l++[x]):=by
 unfold bm;rw[Qa,Qax,show dt (l++[x])=dt l++dt [x] from by simp[dt],←hn];exact h
theorem linfo3:(prog.info? 3).map (fun i=>(i.zero,i.size,i.bytes))=some (some (.int .i64 0),1,8):=by kernel_rfl
theorem fQ {o:Oper} {a:Act} {K:Act→World→Prop} (s x:Operand) (t:TypeId)
  (ho:o.op=.call { callee:=.builtin .append,args:=#[s,x],argTypes:=#[t,t] })
  (base:Nat) (e:TypeId) (i:TypeInfo) (z:Value) (size bytes:Nat) (ht:P.underlying t=some (.slice e)) (hi:P.info? e=some i) (hz:i.zero=some z)
  (hsize:i.size=size) (hby:i.bytes=bytes) (hzs:z.cells.size=size) (hsz:0<size)
  (v:Value) (n:Nat) (xs:List Value) (hs:a.eval s=v) (hown:w.ownsRow base e size v n xs)
  (ad:Addr) (m c:Nat) (news:List Value) (hx:a.eval x=.slice (some ad) m c) (hl:news.length=m*size) (hnews:∀ j u,news[j]?=some u→w.cell? (ad.add j)=some u) (h1:∀ u∈news,u.oneCell'=true)
  (h63:n+m≤maxLen) (hbytes:(n+m)*bytes≤140737488355328) (hbase:base≤w.heap.size)
  (h:∀ v' w',w'.ownsRow base e size v' (n+m) (xs++news)→w.grownBy w' v.ownBlock→(v'.ownBlock=v.ownBlock∨v'.ownBlock=some w.heap.size)→K (a.put o.dst v') w'):Oper.wp P o a w K Q:=by
 obtain⟨v',w',hr,h2,h3,_,h5⟩:=run_append_own_at (P:=P) w base t o.type e i z size bytes ht hi hz hsize hby hzs hsz v n xs hown ad m c news hl hnews h1 h63 hbytes hbase;unfold Oper.wp execOp;simp only[ho,resolve,invoke,builtin,Sem.run_bind,Sem.run_pure,Result.andThen_ok,List.map_toArray,List.map_cons,List.map_nil,hs,hx,hr];exact h v' w' h2 h3 h5
theorem br {rest:List Oper} {o:Oper} {a:Act} (hw:Region.wanted o (yielded ops a.tmps)=true) (s x:Operand) (t:TypeId)
  (ho:o.op=.call { callee:=.builtin .append,args:=#[s,x],argTypes:=#[t,t] })
  (base:Nat) (e:TypeId) (i:TypeInfo) (z:Value) (size bytes:Nat) (ht:P.underlying t=some (.slice e)) (hi:P.info? e=some i) (hz:i.zero=some z)
  (hsize:i.size=size) (hby:i.bytes=bytes) (hzs:z.cells.size=size) (hsz:0<size)
  (v:Value) (n:Nat) (xs:List Value) (hs:a.eval s=v) (hown:w.ownsRow base e size v n xs)
  (vx:Value) (m:Nat) (ys:List Value) (hx:a.eval x=vx) (hsrc:Src w vx m size ys) (h1:∀ u∈ys,u.oneCell'=true)
  (h63:n+m≤maxLen) (hbytes:(n+m)*bytes≤140737488355328) (hbase:base≤w.heap.size)
  (h:∀ v' w',w'.ownsRow base e size v' (n+m) (xs++ys)→w.grownBy w' v.ownBlock→(v'.ownBlock=v.ownBlock∨v'.ownBlock=some w.heap.size)→wpList P ops Q rest (a.put o.dst v') w'):wpList P ops Q (o :: rest) a w:=by
 refine wpList_step fun K hK=>?_;rw[if_pos hw];obtain⟨p,c,e1,hl,hc⟩:=hsrc;subst e1;by_cases h0:m=0
 ·subst h0;have hy:ys=[]:=List.length_eq_zero_iff.1 (by omega);subst hy;cases p with
  | none =>
   have hx2:a.eval x=.slice none 0 c:=hx
   have hrun:(Builtin.append_ #[t,t] o.type #[v,.slice none 0 c]).run P w=.ok v w:=by
    have:=run_append_owned_none (P:=P) (w:=w) base t o.type e i size ht hi v n xs hown;exact this
   unfold Oper.wp;simp[execOp,ho,resolve,invoke,builtin,hs,hx2,hrun,Result.andThen];exact hK _ _ (h v w (by rw[Qb4];exact hown) (aw _ _) (Or.inl rfl))
  | some ad =>
   exact fQ s x t ho base e i z size bytes ht hi hz hsize hby hzs hsz v n xs hs hown ad 0 c [] hx (by simp) (fun j u hu=>by simp at hu) h1 h63 hbytes hbase (fun v' w' h2 h3 h4=>hK _ _ (h v' w' h2 h3 h4))
 ·obtain⟨ad,e2,hcell⟩:=hc (by omega);subst e2;exact fQ s x t ho base e i z size bytes ht hi hz hsize hby hzs hsz v n xs hs hown ad m c ys hx hl hcell h1 h63 hbytes hbase (fun v' w' h2 h3 h4=>hK _ _ (h v' w' h2 h3 h4))
theorem linfoF:(prog.info? 122).map (fun i=>(i.zero,i.size,i.bytes))=some (some (.agg #[.int .i64 0,.int .u8 0,.int .u16 0,.int .i64 0,.int .i64 0]),5,32):=by kernel_rfl
def cJ (w:World) (base:Nat) (v:Value) (fs:List Fe):Prop:=feR.Own 122 w base v fs
theorem dK (w:World) (r:Option Nat):w.grownBy w.drew r:=⟨rfl,rfl,rfl,Qj _,fun _ _ _=>rfl⟩
theorem fI {a b:World} (h:a.grownBy b none) (r:Option Nat):a.grownBy b r:=⟨h.os,h.tape,h.output,h.size,fun i hi _=>h.block i hi (by simp)⟩
theorem pw (R:List Rw) (F:List Fe) (s:Se):(bK R F s).length=F.length:=by simp[bK]
theorem jj.applied {vf':Value} {X:List Rv} (T:jj w vr vf X F) (g:w.grownBy w' none) (s:Se) (o:cJ w' base vf' (bK (rws X) F s)):jj w' vr vf' X (bK (rws X) F s) :=
 ⟨T.rows.keep g,fun x hx=>⟨(T.parts x hx).1.keep g,(T.parts x hx).2⟩,o.at,by rw[pw];exact T.len,T.few⟩
theorem nl {p:Nat→Bool}:∀ (n k:Nat),k<n→(∀ i,i<k→p i=false)→p k=true→(List.range n).find? p=some k
 | n+1,k,hk,hn,hp=>by
  rw[Qbu,Qdc];by_cases h:k<n
  ·rw[nl n k h hn hp];rfl
  ·have:k=n:=(by omega);subst this;rw[List.find?_eq_none.2 (fun x hx=>by rw[hn x (Qdb.1 hx)];simp)];simp[hp]
theorem By (hk:k<L.length) (hn:∀ i,i<k→dN R F L i=false) (hp:dN R F L k=true):eO R F L=k:=by
 unfold eO;rw[nl _ k hk hn hp];rfl
theorem xI (hn:∀ i,i<L.length→dN R F L i=false):eO R F L=0:=by
 unfold eO;rw[List.find?_eq_none.2 (fun x hx=>by rw[hn x (Qdb.1 hx)];simp)];rfl
theorem DE (h:L≠[]):eO R F L<L.length:=by
 have h0:0<L.length:=List.length_pos_iff.2 h;unfold eO;cases hf:(List.range L.length).find? (dN R F L) with
 | none=>exact h0
 | some k=>exact Qdb.1 (List.mem_of_find?_eq_some hf)
theorem aG {α:Type} {l:List α} {d:α} (h:i<l.length):l.getD i d=l[i]:=by rw[Qa2,Qg h];rfl
theorem SeAt.there (h:seR.At w v L) {i:Nat} (hi:i<L.length):∃ g off cap,v=.slice (some ⟨g,off,none⟩) L.length cap∧w.rangeAt g (off+i*11) (sec (L.getD i Se.none)):=by
 rw[aG hi];exact aB.At.there h hi
theorem lY {j:Nat} (h:j≤4096):IntKind.i64.wrap (j:Int)=(j:Int):=IntWalk.i64_in _ (by omega)
theorem pd {j:Nat} (h:j≤4096):wrap64 (j:Int)=(j:Int):=by unfold wrap64;omega
theorem aR {k:Nat} (h:k≤4096):wrap64 ((k:Int)+1)=(k:Int)+1:=by unfold wrap64;omega
theorem lr (fs:List Fe) (R:List Rw) (F:List Fe) (k:Nat):sI fs R F (k+1)=(sI fs R F k).set ((R.getD k Rw.none).nu - 1).toNat (F.getD k Fe.none):=by
 unfold sI;rw[Qbu,Qdd];rfl
theorem pz (fs:List Fe) (R:List Rw) (F:List Fe):∀ k,(sI fs R F k).length=fs.length
 | 0=>rfl
 | k+1=>by rw[lr,Qc8,pz fs R F k]
