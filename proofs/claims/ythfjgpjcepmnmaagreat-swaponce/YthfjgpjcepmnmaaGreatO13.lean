import Derived.Test.YthfjgpjcepmnmaaGreatO3
import Derived.Test.YthfjgpjcepmnmaaGreatO12
import Derived.Test.YthfjgpjcepmnmaaGreatB4
import Derived.ChangeSlices
import Derived.Test.YthfjgpjcepmnmaaGreatO11
import Derived.Laws.IdiomArrays
import Derived.ProofKit
import Derived.OpenShut
import Derived.ChangeOld
import Derived.ChangeAt
import Derived.Deep.Slices
import Derived.SizedLaws
namespace Go.Proofs.YthfjgpjcepmnmaaGreat
set_option maxHeartbeats 1000000
open Go.RowKit
theorem Al (v:Value) (ps:List Pt) (w:World) (h:bI w v ps) (hb:ps.length*40≤140737488355328):Calls Tryz.prog 135 #[v] w fun e w'=>∃ u,e=.returned u∧bx w' w.heap.size u ps∧w.grownBy w' none:=by
 obtain⟨i0,hi,hz0,hz1,hz2⟩:=lg Tryz.info38
 go_enter Tryz.func135,Tryz.ntmps135
 rcases h with ⟨rfl,rfl⟩ | ⟨ad,cap,rfl,hc,h⟩
 ·go_wp2
  go_ret
  exact⟨_,rfl,bx.nil _ _,aq _ _⟩
 ·go_wp2_with (at_builtin;refine wpList_append_own_at _ rfl _ _ 52 rfl w.heap.size 38 i0 _ 8 40 Tryz.underlying52 hi hz0 hz1 hz2 rfl (by decide) _ 0 [] rfl (bx.nil w _) ad ps.length cap (dt ps) rfl (eV ps) h (io ps) (by unfold maxLen;omega) (by rw[Nat.zero_add];exact hb) (Nat.le_refl _) ?_;intro v1 w1 o1 g1 _ _)
  go_ret
  refine⟨_,rfl,?_,g1⟩
  simpa [bx] using o1


set_option maxRecDepth 100000
open Go.ChangeShapes Go.WideShapes Go.ChangeAt Go.Deep
theorem kP {n:Int} (h:(Lit.int .u8 n).wf=true):0≤n∧n≤255:=by
 simp[Lit.wf,IntKind.min,IntKind.max,IntKind.signed,IntKind.bits] at h
 omega
theorem EO {n:Int} (h:(Lit.int .u16 n).wf=true):0≤n∧n≤65535:=by
 simp[Lit.wf,IntKind.min,IntKind.max,IntKind.signed,IntKind.bits] at h
 omega
theorem lS {n:Int} (h:(Lit.int .i64 n).wf=true):-9223372036854775808≤n∧n≤9223372036854775807:=by
 have h1:IntKind.i64.min=-9223372036854775808:=rfl
 have h2:IntKind.i64.max=9223372036854775807:=rfl
 simp[Lit.wf,h1,h2] at h
 omega
theorem FS {h:Hd} {ps:List Pt} (k:Hwf h) (q:∀ p∈ps,Pwf p):(h.with ps).wf:=⟨kP k.su,kP k.kd,lS k.co,lS k.po,lS k.he,EO k.tr,fun p hp=>⟨kP (q p hp).wn,kP (q p hp).vb,kP (q p hp).wm,lS (q p hp).ct,kP (q p hp).su,kP (q p hp).tr,kP (q p hp).mr⟩⟩
theorem Tryz.cells58'':Tryz.prog.cellsOf 58=4:=by kernel_rfl
theorem Tryz.cells36'':Tryz.prog.cellsOf 36=1:=by kernel_rfl
theorem uE {H:Type} {enc:TypeId×Value→H} {w:World} {base:Nat} {sp:Nat→Bool} {held:Bool} {fuel:Nat} {l:List Value} {x:DataW H×List MemPlace} (hsz:l.length=4) (hf:DataW.trod enc Tryz.prog w base sp held fuel 58 l=some x):∃ m:Mk,l=mvs m∧(0≤m.mi∧m.mi≤255):=by
 obtain⟨c0,c1,c2,c3,rfl⟩:∃ c0 c1 c2 c3,l=[c0,c1,c2,c3]:=by
  match l,hsz with
  | [c0,c1,c2,c3],_=>exact⟨c0,c1,c2,c3,rfl⟩
 obtain⟨xs,n,_,hx,_,hlen,hfl⟩:=DataW.trod_struct Tryz.underlying58 hf
 match xs,hlen with
 | [y0,y1,y2,y3],_ =>
  have t0:DataW.trod enc Tryz.prog w base sp held n 36 (([c0,c1,c2,c3].drop 0).take (Tryz.prog.cellsOf 36))=some y0:=hfl 0 _ rfl
  have t1:DataW.trod enc Tryz.prog w base sp held n 9 (([c0,c1,c2,c3].drop 1).take (Tryz.prog.cellsOf 9))=some y1:=hfl 1 _ rfl
  have t2:DataW.trod enc Tryz.prog w base sp held n 3 (([c0,c1,c2,c3].drop 2).take (Tryz.prog.cellsOf 3))=some y2:=hfl 2 _ rfl
  have t3:DataW.trod enc Tryz.prog w base sp held n 3 (([c0,c1,c2,c3].drop 3).take (Tryz.prog.cellsOf 3))=some y3:=hfl 3 _ rfl
  rw[Tryz.cells36''] at t0
  rw[Tryz.cells9'] at t1
  rw[Tryz.cells3'] at t2 t3
  obtain⟨z0,e0,_,w0⟩:=DataW.trod_int Tryz.underlying36 (cs:=[c0]) t0
  obtain⟨z1,e1,_,_⟩:=DataW.trod_string Tryz.underlying9 (cs:=[c1]) t1
  obtain⟨z2,e2,_,_⟩:=DataW.trod_int Tryz.underlying3 (cs:=[c2]) t2
  obtain⟨z3,e3,_,_⟩:=DataW.trod_int Tryz.underlying3 (cs:=[c3]) t3
  simp only[List.cons.injEq,and_true] at e0 e1 e2 e3
  subst e0 e1 e2 e3
  exact⟨⟨z0,z1,z2,z3⟩,rfl,by have h0:=w0;simp[Lit.wf,IntKind.min,IntKind.max,IntKind.signed,IntKind.bits] at h0;omega⟩
theorem EL:Tryz.prog.bytesOf 54=80:=by kernel_rfl
theorem EZ:Tryz.prog.bytesOf 58=40:=by kernel_rfl
theorem lT {H:Type} {P:Program} {e:TypeId} {n:Nat}:∀ {l:List (DataW H)} {d:DataW H},d∈l→n∈d.weights P e→n∈DataW.weightsAll P e l
 | x :: r,d,hd,hn=>by
  simp only[DataW.weightsAll,List.mem_append]
  rcases List.mem_cons.1 hd with rfl | hd
  ·exact Or.inl hn
  ·exact Or.inr (lT hd hn)
theorem vd {H:Type} {enc:TypeId×Value→H} {w:World} {base:Nat} {sp:Nat→Bool} {held:Bool} {fuel:Nat} {v:Value} {x:DataW H×List MemPlace}
  (h:DataW.trod enc Tryz.prog w base sp held fuel 67 [v]=some x) (hz:∀ n∈x.1.weights Tryz.prog 67,n≤reachBytes):∃ cs:List Ent,(∃ a k,v=.slice a cs.length k∧(0<cs.length→∃ g o,a=some ⟨g,o,none⟩∧kZ w g o cs))∧(∀ e∈cs,bI w e.v e.ps∧jm e.ps.length∧(e.h.with e.ps).wf)∧bm cs.length:=by
 rcases open_slice Tryz.underlying67 h with ⟨hcs,_⟩ | ⟨a,len,cp,m,f,D,Pl,hcs,_,hl,hm,hmm,hxx,hx⟩
 ·simp at hcs
  subst hcs
  exact⟨[],⟨none,0,rfl,fun h0=>by simp at h0⟩,by simp,by unfold bm;decide⟩
 ·simp at hcs
  subst hcs
  rw[Tryz.cells54'] at hx
  have hnm:len≤m:=by rw[hmm];split <;> omega
  have hp:∀ i,i<len→∃ e:Ent,(bI w e.v e.ps∧jm e.ps.length∧(e.h.with e.ps).wf)∧∀ k u,(cvs e.h e.v)[k]?=some u→w.cell? ((a.add (i*9)).add k)=some u:=fun i hi=>by
   obtain⟨cs',h1,h2⟩:=hx i (by omega)
   obtain⟨_,hlen,hc⟩:=World.cells?_some h1
   obtain⟨hd,u,ps,e,p1,p2,p3⟩:=vj hlen h2 (fun n hn=>hz n (by
    rw[hxx]
    simp only[DataW.weights,Tryz.underlying67]
    exact List.mem_cons_of_mem _ (List.mem_append_left _ (lT (List.mem_map.2 ⟨i,List.mem_range.2 hi,rfl⟩) hn))))
   subst e
   refine⟨⟨hd,u,ps⟩,⟨p1,p2,FS p3.1 p3.2⟩,fun k y hk=>?_⟩
   have hk9:k<9:=(List.getElem?_eq_some_iff.1 hk).1
   rw[hc k hk9]
   exact hk
  haveI:Inhabited Ent:=⟨⟨Hd.none,.bool false,[]⟩⟩
  obtain⟨F,hF⟩:=choose_lt (α:=Ent) hp
  refine⟨(List.range len).map F,⟨some a,cp,by simp,fun h0=>?_⟩,?_,?_⟩
  ·have h0':0<len:=by simpa using h0
   have c0:=(hF 0 h0').2 0 _ rfl
   have ex:(a.add (0*9)).add 0=a:=by simp[Addr.add]
   rw[ex] at c0
   have pl:=fJ c0
   refine⟨a.block,a.off,by rw[←pl],fun j e he=>?_⟩
   have hj:j<len:=by have:=(List.getElem?_eq_some_iff.1 he).1;simpa using this
   obtain rfl:e=F j:=by simp[hj] at he;exact he.symm
   have at_:∀ k u,(cvs (F j).h (F j).v)[k]?=some u→w.cell? ⟨a.block,a.off+j*9+k,none⟩=some u:=fun k u hk=>by
    have:=(hF j hj).2 k u hk
    rw[lp pl,pl,ci,←Nat.add_assoc] at this
    exact this
   exact⟨at_ 0 _ rfl,at_ 1 _ rfl,at_ 2 _ rfl,at_ 3 _ rfl,at_ 4 _ rfl,at_ 5 _ rfl,at_ 6 _ rfl,at_ 7 _ rfl,at_ 8 _ rfl⟩
  ·intro e he
   obtain⟨i,hi,rfl⟩:=List.mem_map.1 he
   exact(hF i (List.mem_range.1 hi)).1
  ·have hb:=hz ((len+(m - len))*80) (by rw[hxx];simp[DataW.weights,Tryz.underlying67,EL])
   unfold reachBytes at hb
   unfold bm
   simp only[List.length_map,List.length_range]
   omega
theorem uo {H:Type} {enc:TypeId×Value→H} {w:World} {base:Nat} {sp:Nat→Bool} {held:Bool} {fuel:Nat} {v:Value} {x:DataW H×List MemPlace}
  (h:DataW.trod enc Tryz.prog w base sp held fuel 68 [v]=some x) (hz:∀ n∈x.1.weights Tryz.prog 68,n≤reachBytes):∃ ms:List Mk,(∃ a k,v=.slice a ms.length k∧(0<ms.length→∃ g o,a=some ⟨g,o,none⟩∧MAt w g o ms))∧(∀ m∈ms,0≤m.mi∧m.mi≤255)∧bm ms.length:=by
 rcases open_slice Tryz.underlying68 h with ⟨hcs,_⟩ | ⟨a,len,cp,m,f,D,Pl,hcs,_,hl,hm,hmm,hxx,hx⟩
 ·simp at hcs
  subst hcs
  exact⟨[],⟨none,0,rfl,fun h0=>by simp at h0⟩,by simp,by unfold bm;decide⟩
 ·simp at hcs
  subst hcs
  rw[Tryz.cells58''] at hx
  have hnm:len≤m:=by rw[hmm];split <;> omega
  have hp:∀ i,i<len→∃ e:Mk,(0≤e.mi∧e.mi≤255)∧∀ k u,(mvs e)[k]?=some u→w.cell? ((a.add (i*4)).add k)=some u:=fun i hi=>by
   obtain⟨cs',h1,h2⟩:=hx i (by omega)
   obtain⟨_,hlen,hc⟩:=World.cells?_some h1
   obtain⟨e,he,hr⟩:=uE hlen h2
   subst he
   refine⟨e,hr,fun k y hk=>?_⟩
   have hk4:k<4:=(List.getElem?_eq_some_iff.1 hk).1
   rw[hc k hk4]
   exact hk
  haveI:Inhabited Mk:=⟨Mk.none⟩
  obtain⟨F,hF⟩:=choose_lt (α:=Mk) hp
  refine⟨(List.range len).map F,⟨some a,cp,by simp,fun h0=>?_⟩,fun m hm=>by obtain⟨i,hi,rfl⟩:=List.mem_map.1 hm;exact(hF i (List.mem_range.1 hi)).1,by
   have hb:=hz ((len+(m - len))*40) (by rw[hxx];simp[DataW.weights,Tryz.underlying68,EZ])
   unfold reachBytes at hb
   unfold bm
   simp only[List.length_map,List.length_range]
   omega⟩
  have h0':0<len:=by simpa using h0
  have c0:=(hF 0 h0').2 0 _ rfl
  have ex:(a.add (0*4)).add 0=a:=by simp[Addr.add]
  rw[ex] at c0
  have pl:=fJ c0
  refine⟨a.block,a.off,by rw[←pl],fun j e he=>?_⟩
  have hj:j<len:=by have:=(List.getElem?_eq_some_iff.1 he).1;simpa using this
  obtain rfl:e=F j:=by simp[hj] at he;exact he.symm
  have at_:∀ k u,(mvs (F j))[k]?=some u→w.cell? ⟨a.block,a.off+j*4+k,none⟩=some u:=fun k u hk=>by
   have:=(hF j hj).2 k u hk
   rw[lp pl,pl,ci,←Nat.add_assoc] at this
   exact this
  exact⟨at_ 0 _ rfl,at_ 1 _ rfl,at_ 2 _ rfl,at_ 3 _ rfl⟩
structure FiA (w:World) (vc vm:Value) (cs:List Ent) (ms:List Mk):Prop where
 c:∃ a k,vc=.slice a cs.length k∧(0<cs.length→∃ g o,a=some ⟨g,o,none⟩∧kZ w g o cs)
 m:∃ a k,vm=.slice a ms.length k∧(0<ms.length→∃ g o,a=some ⟨g,o,none⟩∧MAt w g o ms)
 ps:∀ e∈cs,bI w e.v e.ps∧jm e.ps.length∧(e.h.with e.ps).wf
 mr:∀ m∈ms,0≤m.mi∧m.mi≤255
 cz:bm cs.length
 mz:bm ms.length
theorem FiA.keep {w w':World} {vc vm:Value} {cs:List Ent} {ms:List Mk} (h:FiA w vc vm cs ms) (g:w.grownBy w' none):FiA w' vc vm cs ms:=by
 obtain⟨⟨a,k,e,h1⟩,⟨c,m,i,h3⟩,h4,h5,h6,h7⟩:=h
 refine⟨⟨a,k,e,fun h0=>?_⟩,⟨c,m,i,fun h0=>?_⟩,fun e he=>⟨(h4 e he).1.keep g,(h4 e he).2⟩,h5,h6,h7⟩
 ·obtain⟨x,o,e1,e2⟩:=h1 h0;exact⟨x,o,e1,e2.keep g⟩
 ·obtain⟨x,o,e1,e2⟩:=h3 h0;exact⟨x,o,e1,e2.keep g⟩
theorem sc:Tryz.prog.cellsOf 70=3:=by kernel_rfl
theorem Tryz.cells67'':Tryz.prog.cellsOf 67=1:=by kernel_rfl
theorem Tryz.cells4'':Tryz.prog.cellsOf 4=1:=by kernel_rfl
theorem Tryz.cells68'':Tryz.prog.cellsOf 68=1:=by kernel_rfl
theorem Tryz.own:ownKnob Tryz.prog.godebug=none:=by kernel_rfl
theorem Tryz.laidOut:laidOutB Tryz.prog=true:=by kernel_rfl
def thv (t:Th):Value:=.agg #[.int .i64 t.card,.int .i64 t.owner,.int .u8 t.place,.int .i64 t.stamp,.int .i64 t.hurt,.int .i64 t.m0,.int .i64 t.m1,.int .i64 t.m2,.int .i64 t.m3,.int .i64 t.done,.bool t.fresh]
theorem kL {n:Int} (h:(Lit.int .i64 n).wf=true):InI n:=lS h
theorem qc:Tryz.prog.cellsOf 3=1:=by kernel_rfl
theorem cOfB:Tryz.prog.cellsOf 4=1:=by kernel_rfl
theorem Fu:Tryz.prog.cellsOf 97=1:=by kernel_rfl
theorem FR:Tryz.prog.cellsOf 34=1:=by kernel_rfl
theorem Fr:Tryz.prog.cellsOf 51=1:=by kernel_rfl
theorem cOf4:Tryz.prog.cellsOf 98=4:=by kernel_rfl
theorem FG:Tryz.prog.cellsOf 65=5:=by kernel_rfl
theorem Fy:Tryz.prog.cellsOf 100=11:=by kernel_rfl
theorem um {H:Type} {enc:TypeId×Value→H} {w:World} {base:Nat} {sp:Nat→Bool} {held:Bool} {fuel:Nat} {c0 c1 c2 c3:Value} {x:DataW H×List MemPlace} (hf:DataW.trod enc Tryz.prog w base sp held fuel 98 [c0,c1,c2,c3]=some x):∃ z0 z1 z2 z3:Int,c0=.int .i64 z0∧c1=.int .i64 z1∧c2=.int .i64 z2∧c3=.int .i64 z3∧InI z0∧InI z1∧InI z2∧InI z3:=by
 obtain⟨y0,y1,y2,y3,m,hx,hy0,hy1,hy2,hy3⟩:=trod_array4 Tryz.underlying98 qc hf
 obtain⟨x0,e0,_,w0⟩:=DataW.trod_int Tryz.underlying3 hy0
 obtain⟨x1,e1,_,w1⟩:=DataW.trod_int Tryz.underlying3 hy1
 obtain⟨x2,e2,_,w2⟩:=DataW.trod_int Tryz.underlying3 hy2
 obtain⟨x3,e3,_,w3⟩:=DataW.trod_int Tryz.underlying3 hy3
 simp only[List.cons.injEq,and_true] at e0 e1 e2 e3
 exact⟨x0,x1,x2,x3,e0,e1,e2,e3,kL w0,kL w1,kL w2,kL w3⟩
end Go.Proofs.YthfjgpjcepmnmaaGreat
namespace Go.Proofs.YthfjgpjcepmnmaaGreat
open Go.RowKit
structure Rv where
 r:Rw
 pa:Option Addr
 ca:Nat
def Rv.u (x:Rv):Value:=.slice x.pa x.r.ps.length x.ca
def rws (X:List Rv):List Rw:=X.map Rv.r
theorem eZ (X:List Rv):(rws X).length=X.length:=List.length_map _
theorem iT {X:List Rv} {i:Nat} (h:i<X.length):(rws X).getD i Rw.none=X[i].r:=by
 unfold rws
 rw[List.getD_eq_getElem?_getD,List.getElem?_map,List.getElem?_eq_getElem h]
 rfl
def thc (t:Th):List Value:=[.int .i64 t.card,.int .i64 t.owner,.int .u8 t.place,.int .i64 t.stamp,.int .i64 t.hurt,.int .i64 t.m0,.int .i64 t.m1,.int .i64 t.m2,.int .i64 t.m3,.int .i64 t.done,.bool t.fresh]
theorem Bs (t:Th):∀ v∈thc t,v.oneCell'=true:=fun v h=>by
 simp only[thc,List.mem_cons,List.not_mem_nil,or_false] at h
 rcases h with h | h | h | h | h | h | h | h | h | h | h <;> (subst h;rfl)
def thR:ay Th:=⟨11,thc,fun _=>rfl,Bs,by decide⟩
theorem bc {w:World} {g o:Nat} {t:Th} (h:w.rangeAt g o (thc t)):w.cell? ⟨g,o,none⟩=some (.int .i64 t.card)∧w.cell? ⟨g,o+1,none⟩=some (.int .i64 t.owner)∧w.cell? ⟨g,o+2,none⟩=some (.int .u8 t.place)∧w.cell? ⟨g,o+3,none⟩=some (.int .i64 t.stamp)∧w.cell? ⟨g,o+4,none⟩=some (.int .i64 t.hurt)∧w.cell? ⟨g,o+5,none⟩=some (.int .i64 t.m0)∧w.cell? ⟨g,o+6,none⟩=some (.int .i64 t.m1)∧w.cell? ⟨g,o+7,none⟩=some (.int .i64 t.m2)∧w.cell? ⟨g,o+8,none⟩=some (.int .i64 t.m3)∧w.cell? ⟨g,o+9,none⟩=some (.int .i64 t.done)∧w.cell? ⟨g,o+10,none⟩=some (.bool t.fresh) :=
 ⟨h 0 _ rfl,h 1 _ rfl,h 2 _ rfl,h 3 _ rfl,h 4 _ rfl,h 5 _ rfl,h 6 _ rfl,h 7 _ rfl,h 8 _ rfl,h 9 _ rfl,h 10 _ rfl⟩
def ThB (w:World) (g:Nat) (t:Th):Prop:=w.heap[g]?=some (.cells #[.int .i64 t.card,.int .i64 t.owner,.int .u8 t.place,.int .i64 t.stamp,.int .i64 t.hurt,.int .i64 t.m0,.int .i64 t.m1,.int .i64 t.m2,.int .i64 t.m3,.int .i64 t.done,.bool t.fresh] 100 (0,0))
theorem cV {w:World} {g:Nat} {t:Th} (h:ThB w g t):w.cell? ⟨g,0,none⟩=some (.int .i64 t.card)∧w.cell? ⟨g,1,none⟩=some (.int .i64 t.owner)∧w.cell? ⟨g,2,none⟩=some (.int .u8 t.place)∧w.cell? ⟨g,3,none⟩=some (.int .i64 t.stamp)∧w.cell? ⟨g,4,none⟩=some (.int .i64 t.hurt)∧w.cell? ⟨g,5,none⟩=some (.int .i64 t.m0)∧w.cell? ⟨g,6,none⟩=some (.int .i64 t.m1)∧w.cell? ⟨g,7,none⟩=some (.int .i64 t.m2)∧w.cell? ⟨g,8,none⟩=some (.int .i64 t.m3)∧w.cell? ⟨g,9,none⟩=some (.int .i64 t.done)∧w.cell? ⟨g,10,none⟩=some (.bool t.fresh) :=
 ⟨(ac h 0).trans rfl,(ac h 1).trans rfl,(ac h 2).trans rfl,(ac h 3).trans rfl,(ac h 4).trans rfl,(ac h 5).trans rfl,(ac h 6).trans rfl,(ac h 7).trans rfl,(ac h 8).trans rfl,(ac h 9).trans rfl,(ac h 10).trans rfl⟩
def fec (f:Fe):List Value:=[.int .i64 f.ho,.int .u8 f.su,.int .u16 f.tr,.int .i64 f.po,.int .i64 f.he]
theorem BH (f:Fe):∀ v∈fec f,v.oneCell'=true:=fun v h=>by
 simp only[fec,List.mem_cons,List.not_mem_nil,or_false] at h
 rcases h with h | h | h | h | h <;> (subst h;rfl)
def feR:ay Fe:=⟨5,fec,fun _=>rfl,BH,by decide⟩
theorem cC {w:World} {g o:Nat} {f:Fe} (h:w.rangeAt g o (fec f)):w.cell? ⟨g,o,none⟩=some (.int .i64 f.ho)∧w.cell? ⟨g,o+1,none⟩=some (.int .u8 f.su)∧w.cell? ⟨g,o+2,none⟩=some (.int .u16 f.tr)∧w.cell? ⟨g,o+3,none⟩=some (.int .i64 f.po)∧w.cell? ⟨g,o+4,none⟩=some (.int .i64 f.he) :=
 ⟨h 0 _ rfl,h 1 _ rfl,h 2 _ rfl,h 3 _ rfl,h 4 _ rfl⟩
def FeB (w:World) (g:Nat) (f:Fe):Prop:=w.heap[g]?=some (.cells #[.int .i64 f.ho,.int .u8 f.su,.int .u16 f.tr,.int .i64 f.po,.int .i64 f.he] 65 (0,0))
theorem jV {w:World} {g:Nat} {f:Fe} (h:FeB w g f):w.cell? ⟨g,0,none⟩=some (.int .i64 f.ho)∧w.cell? ⟨g,1,none⟩=some (.int .u8 f.su)∧w.cell? ⟨g,2,none⟩=some (.int .u16 f.tr)∧w.cell? ⟨g,3,none⟩=some (.int .i64 f.po)∧w.cell? ⟨g,4,none⟩=some (.int .i64 f.he) :=
 ⟨(ac h 0).trans rfl,(ac h 1).trans rfl,(ac h 2).trans rfl,(ac h 3).trans rfl,(ac h 4).trans rfl⟩
def sdc (s:Sd):List Value:=[.int .i64 s.th,.int .i64 s.pl,.int .u8 s.wh.wn,.int .u8 s.wh.vb,.int .u8 s.wh.wm,.int .i64 s.wh.ct,.int .u8 s.wh.su,.int .u8 s.wh.tr,.int .u8 s.wh.mr,.string s.wh.nm]
def sdv (s:Sd):Value:=.agg #[.int .i64 s.th,.int .i64 s.pl,.int .u8 s.wh.wn,.int .u8 s.wh.vb,.int .u8 s.wh.wm,.int .i64 s.wh.ct,.int .u8 s.wh.su,.int .u8 s.wh.tr,.int .u8 s.wh.mr,.string s.wh.nm]
theorem fL (s:Sd):∀ v∈sdc s,v.oneCell'=true:=fun v h=>by
 simp only[sdc,List.mem_cons,List.not_mem_nil,or_false] at h
 rcases h with h | h | h | h | h | h | h | h | h | h <;> (subst h;rfl)
def sdR:ay Sd:=⟨10,sdc,fun _=>rfl,fL,by decide⟩
theorem bu {w:World} {g o:Nat} {s:Sd} (h:w.rangeAt g o (sdc s)):w.cell? ⟨g,o,none⟩=some (.int .i64 s.th)∧w.cell? ⟨g,o+1,none⟩=some (.int .i64 s.pl)∧w.cell? ⟨g,o+2,none⟩=some (.int .u8 s.wh.wn)∧w.cell? ⟨g,o+3,none⟩=some (.int .u8 s.wh.vb)∧w.cell? ⟨g,o+4,none⟩=some (.int .u8 s.wh.wm)∧w.cell? ⟨g,o+5,none⟩=some (.int .i64 s.wh.ct)∧w.cell? ⟨g,o+6,none⟩=some (.int .u8 s.wh.su)∧w.cell? ⟨g,o+7,none⟩=some (.int .u8 s.wh.tr)∧w.cell? ⟨g,o+8,none⟩=some (.int .u8 s.wh.mr)∧w.cell? ⟨g,o+9,none⟩=some (.string s.wh.nm) :=
 ⟨h 0 _ rfl,h 1 _ rfl,h 2 _ rfl,h 3 _ rfl,h 4 _ rfl,h 5 _ rfl,h 6 _ rfl,h 7 _ rfl,h 8 _ rfl,h 9 _ rfl⟩
def SdB (w:World) (g:Nat) (s:Sd):Prop:=w.heap[g]?=some (.cells #[.int .i64 s.th,.int .i64 s.pl,.int .u8 s.wh.wn,.int .u8 s.wh.vb,.int .u8 s.wh.wm,.int .i64 s.wh.ct,.int .u8 s.wh.su,.int .u8 s.wh.tr,.int .u8 s.wh.mr,.string s.wh.nm] 40 (0,0))
theorem aT {w:World} {g:Nat} {s:Sd} (h:SdB w g s):w.cell? ⟨g,0,none⟩=some (.int .i64 s.th)∧w.cell? ⟨g,1,none⟩=some (.int .i64 s.pl)∧w.cell? ⟨g,2,none⟩=some (.int .u8 s.wh.wn)∧w.cell? ⟨g,3,none⟩=some (.int .u8 s.wh.vb)∧w.cell? ⟨g,4,none⟩=some (.int .u8 s.wh.wm)∧w.cell? ⟨g,5,none⟩=some (.int .i64 s.wh.ct)∧w.cell? ⟨g,6,none⟩=some (.int .u8 s.wh.su)∧w.cell? ⟨g,7,none⟩=some (.int .u8 s.wh.tr)∧w.cell? ⟨g,8,none⟩=some (.int .u8 s.wh.mr)∧w.cell? ⟨g,9,none⟩=some (.string s.wh.nm) :=
 ⟨(ac h 0).trans rfl,(ac h 1).trans rfl,(ac h 2).trans rfl,(ac h 3).trans rfl,(ac h 4).trans rfl,(ac h 5).trans rfl,(ac h 6).trans rfl,(ac h 7).trans rfl,(ac h 8).trans rfl,(ac h 9).trans rfl⟩
def sec (e:Se):List Value:=[.int .i64 e.s.th,.int .i64 e.s.pl,.int .u8 e.s.wh.wn,.int .u8 e.s.wh.vb,.int .u8 e.s.wh.wm,.int .i64 e.s.wh.ct,.int .u8 e.s.wh.su,.int .u8 e.s.wh.tr,.int .u8 e.s.wh.mr,.string e.s.wh.nm,.int .i64 (e.ro:Int)]
def sev (e:Se):Value:=.agg #[.int .i64 e.s.th,.int .i64 e.s.pl,.int .u8 e.s.wh.wn,.int .u8 e.s.wh.vb,.int .u8 e.s.wh.wm,.int .i64 e.s.wh.ct,.int .u8 e.s.wh.su,.int .u8 e.s.wh.tr,.int .u8 e.s.wh.mr,.string e.s.wh.nm,.int .i64 (e.ro:Int)]
theorem mN (e:Se):∀ v∈sec e,v.oneCell'=true:=fun v h=>by
 simp only[sec,List.mem_cons,List.not_mem_nil,or_false] at h
 rcases h with h | h | h | h | h | h | h | h | h | h | h <;> (subst h;rfl)
def seR:ay Se:=⟨11,sec,fun _=>rfl,mN,by decide⟩
theorem sv {w:World} {g o:Nat} {e:Se} (h:w.rangeAt g o (sec e)):w.cell? ⟨g,o,none⟩=some (.int .i64 e.s.th)∧w.cell? ⟨g,o+1,none⟩=some (.int .i64 e.s.pl)∧w.cell? ⟨g,o+2,none⟩=some (.int .u8 e.s.wh.wn)∧w.cell? ⟨g,o+3,none⟩=some (.int .u8 e.s.wh.vb)∧w.cell? ⟨g,o+4,none⟩=some (.int .u8 e.s.wh.wm)∧w.cell? ⟨g,o+5,none⟩=some (.int .i64 e.s.wh.ct)∧w.cell? ⟨g,o+6,none⟩=some (.int .u8 e.s.wh.su)∧w.cell? ⟨g,o+7,none⟩=some (.int .u8 e.s.wh.tr)∧w.cell? ⟨g,o+8,none⟩=some (.int .u8 e.s.wh.mr)∧w.cell? ⟨g,o+9,none⟩=some (.string e.s.wh.nm)∧w.cell? ⟨g,o+10,none⟩=some (.int .i64 (e.ro:Int)) :=
 ⟨h 0 _ rfl,h 1 _ rfl,h 2 _ rfl,h 3 _ rfl,h 4 _ rfl,h 5 _ rfl,h 6 _ rfl,h 7 _ rfl,h 8 _ rfl,h 9 _ rfl,h 10 _ rfl⟩
def SeB (w:World) (g:Nat) (e:Se):Prop:=w.heap[g]?=some (.cells #[.int .i64 e.s.th,.int .i64 e.s.pl,.int .u8 e.s.wh.wn,.int .u8 e.s.wh.vb,.int .u8 e.s.wh.wm,.int .i64 e.s.wh.ct,.int .u8 e.s.wh.su,.int .u8 e.s.wh.tr,.int .u8 e.s.wh.mr,.string e.s.wh.nm,.int .i64 (e.ro:Int)] 167 (0,0))
theorem mQ {w:World} {g:Nat} {e:Se} (h:SeB w g e):w.cell? ⟨g,0,none⟩=some (.int .i64 e.s.th)∧w.cell? ⟨g,1,none⟩=some (.int .i64 e.s.pl)∧w.cell? ⟨g,2,none⟩=some (.int .u8 e.s.wh.wn)∧w.cell? ⟨g,3,none⟩=some (.int .u8 e.s.wh.vb)∧w.cell? ⟨g,4,none⟩=some (.int .u8 e.s.wh.wm)∧w.cell? ⟨g,5,none⟩=some (.int .i64 e.s.wh.ct)∧w.cell? ⟨g,6,none⟩=some (.int .u8 e.s.wh.su)∧w.cell? ⟨g,7,none⟩=some (.int .u8 e.s.wh.tr)∧w.cell? ⟨g,8,none⟩=some (.int .u8 e.s.wh.mr)∧w.cell? ⟨g,9,none⟩=some (.string e.s.wh.nm)∧w.cell? ⟨g,10,none⟩=some (.int .i64 (e.ro:Int)) :=
 ⟨(ac h 0).trans rfl,(ac h 1).trans rfl,(ac h 2).trans rfl,(ac h 3).trans rfl,(ac h 4).trans rfl,(ac h 5).trans rfl,(ac h 6).trans rfl,(ac h 7).trans rfl,(ac h 8).trans rfl,(ac h 9).trans rfl,(ac h 10).trans rfl⟩
def rvc (x:Rv):List Value:=[.int .i64 x.r.nu,.int .i64 x.r.st,.string x.r.h.nm,.int .u8 x.r.h.su,.int .u8 x.r.h.kd,.int .i64 x.r.h.co,.int .i64 x.r.h.po,.int .i64 x.r.h.he,.int .u16 x.r.h.tr,.bool x.r.h.tk,x.u]
theorem sF (x:Rv):∀ v∈rvc x,v.oneCell'=true:=fun v h=>by
 simp only[rvc,List.mem_cons,List.not_mem_nil,or_false] at h
 rcases h with h | h | h | h | h | h | h | h | h | h | h <;> (subst h;rfl)
def rvR:ay Rv:=⟨11,rvc,fun _=>rfl,sF,by decide⟩
theorem gH {w:World} {g o:Nat} {x:Rv} (h:w.rangeAt g o (rvc x)):w.cell? ⟨g,o,none⟩=some (.int .i64 x.r.nu)∧w.cell? ⟨g,o+1,none⟩=some (.int .i64 x.r.st)∧w.cell? ⟨g,o+2,none⟩=some (.string x.r.h.nm)∧w.cell? ⟨g,o+3,none⟩=some (.int .u8 x.r.h.su)∧w.cell? ⟨g,o+4,none⟩=some (.int .u8 x.r.h.kd)∧w.cell? ⟨g,o+5,none⟩=some (.int .i64 x.r.h.co)∧w.cell? ⟨g,o+6,none⟩=some (.int .i64 x.r.h.po)∧w.cell? ⟨g,o+7,none⟩=some (.int .i64 x.r.h.he)∧w.cell? ⟨g,o+8,none⟩=some (.int .u16 x.r.h.tr)∧w.cell? ⟨g,o+9,none⟩=some (.bool x.r.h.tk)∧w.cell? ⟨g,o+10,none⟩=some (x.u) :=
 ⟨h 0 _ rfl,h 1 _ rfl,h 2 _ rfl,h 3 _ rfl,h 4 _ rfl,h 5 _ rfl,h 6 _ rfl,h 7 _ rfl,h 8 _ rfl,h 9 _ rfl,h 10 _ rfl⟩
def tbv (vr vf:Value):Value:=.agg #[vr,vf]
def TbB (w:World) (g:Nat) (vr vf:Value):Prop:=w.heap[g]?=some (.cells #[vr,vf] 161 (0,0))
theorem il {w:World} {g:Nat} {vr vf:Value} (h:TbB w g vr vf):w.cell? ⟨g,0,none⟩=some vr∧w.cell? ⟨g,1,none⟩=some vf:=⟨(ac h 0).trans rfl,(ac h 1).trans rfl⟩
structure iL (w:World) (vr vf:Value) (X:List Rv) (F:List Fe):Prop where
 rows:rvR.At w vr X
 parts:∀ x∈X,bI w x.u x.r.ps∧x.r.ps.length≤4
 fs:feR.At w vf F
 len:F.length=X.length
 few:X.length≤16
theorem iL.keep {w w':World} {vr vf:Value} {X:List Rv} {F:List Fe} (h:iL w vr vf X F) (g:w.grownBy w' none):iL w' vr vf X F:=⟨h.rows.keep g,fun x hx=>⟨(h.parts x hx).1.keep g,(h.parts x hx).2⟩,h.fs.keep g,h.len,h.few⟩
theorem iL.row {w:World} {vr vf:Value} {X:List Rv} {F:List Fe} (h:iL w vr vf X F) {i:Nat} (hi:i<X.length):∃ g off cap,vr=.slice (some ⟨g,off,none⟩) X.length cap∧w.rangeAt g (off+i*11) (rvc X[i]):=h.rows.there hi
theorem iL.fe {w:World} {vr vf:Value} {X:List Rv} {F:List Fe} (h:iL w vr vf X F) {i:Nat} (hi:i<X.length):∃ g off cap,vf=.slice (some ⟨g,off,none⟩) F.length cap∧w.rangeAt g (off+i*5) (fec (F.getD i Fe.none)):=by
 have hi':i<F.length:=by rw[h.len];exact hi
 have:=h.fs.there hi'
 rw[show F.getD i Fe.none=F[i] from by rw[List.getD_eq_getElem?_getD,List.getElem?_eq_getElem hi'];rfl]
 exact this
end Go.Proofs.YthfjgpjcepmnmaaGreat
