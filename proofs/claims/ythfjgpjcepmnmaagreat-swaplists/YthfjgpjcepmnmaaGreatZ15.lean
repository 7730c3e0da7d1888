/-
  CopyParts: the same parts,in new memory.
  LentParts,SameParts,KeptParts: a list is lent with two more behind it;two lists are held against each other;a lent list is as it was.
  KeptParts: is a lent list as it was? LentCard: a card with its parts lent.
  What a book is filled with (cards,marks,whether it stays open),read as data.
  A thing,features,four numbers of marks,read as data.
-/
import Derived.Test.YthfjgpjcepmnmaaGreatZ3
import Derived.Test.YthfjgpjcepmnmaaGreatZ14
import Derived.Test.YthfjgpjcepmnmaaGreatZB4
import Derived.ChangeSlices
import Derived.Test.YthfjgpjcepmnmaaGreatZ13
import Derived.Laws.IdiomArrays
import Derived.ProofKit
import Derived.OpenShut
import Derived.ChangeOld
import Derived.ChangeAt
import Derived.Deep.Slices
import Derived.SizedLaws
namespace Go.Proofs.YthfjgpjcepmnmaaGreat
set_option maxHeartbeats 1000000
open Go.RowKit
theorem copy_any (v:Value) (ps:List Pt) (w:World) (h:PsAt w v ps) (hb:ps.length*40≤140737488355328):Calls Tryz.prog 135 #[v] w fun e w'=>∃ u,e=.returned u∧POwn w' w.heap.size u ps∧w.grownBy w' none:=by
 obtain⟨i0,hi,hz0,hz1,hz2⟩:=info_of Tryz.info38
 go_enter Tryz.func135,Tryz.ntmps135
 rcases h with ⟨rfl,rfl⟩ | ⟨ad,cap,rfl,hc,h⟩
 ·go_wp2
  go_ret
  exact⟨_,rfl,POwn.nil _ _,grown_refl _ _⟩
 ·go_wp2_with (at_builtin;refine wpList_append_own_at _ rfl _ _ 52 rfl w.heap.size 38 i0 _ 8 40 Tryz.underlying52 hi hz0 hz1 hz2 rfl (by decide) _ 0 [] rfl (POwn.nil w _) ad ps.length cap (pcells ps) rfl (pcells_len ps) h (pcells_one ps) (by unfold maxLen;omega) (by rw[Nat.zero_add];exact hb) (Nat.le_refl _) ?_;intro v1 w1 o1 g1 _ _)
  go_ret
  refine⟨_,rfl,?_,g1⟩
  simpa [POwn] using o1


set_option maxRecDepth 100000
open Go.ChangeShapes Go.WideShapes Go.ChangeAt Go.Deep
theorem u8_of {n:Int} (h:(Lit.int .u8 n).wf=true):0≤n∧n≤255:=by
 simp[Lit.wf,IntKind.min,IntKind.max,IntKind.signed,IntKind.bits] at h
 omega
theorem u16_of {n:Int} (h:(Lit.int .u16 n).wf=true):0≤n∧n≤65535:=by
 simp[Lit.wf,IntKind.min,IntKind.max,IntKind.signed,IntKind.bits] at h
 omega
theorem i64_of {n:Int} (h:(Lit.int .i64 n).wf=true):-9223372036854775808≤n∧n≤9223372036854775807:=by
 have h1:IntKind.i64.min=-9223372036854775808:=rfl
 have h2:IntKind.i64.max=9223372036854775807:=rfl
 simp[Lit.wf,h1,h2] at h
 omega
theorem wf_of {h:Hd} {ps:List Pt} (k:Hwf h) (q:∀ p∈ps,Pwf p):(h.with ps).wf:=⟨u8_of k.su,u8_of k.kd,i64_of k.co,i64_of k.po,i64_of k.he,u16_of k.tr,fun p hp=>⟨u8_of (q p hp).wn,u8_of (q p hp).vb,u8_of (q p hp).wm,i64_of (q p hp).ct,u8_of (q p hp).su,u8_of (q p hp).tr,u8_of (q p hp).mr⟩⟩
theorem Tryz.cells58'':Tryz.prog.cellsOf 58=4:=by kernel_rfl
theorem Tryz.cells36'':Tryz.prog.cellsOf 36=1:=by kernel_rfl
theorem mark_cells {H:Type} {enc:TypeId×Value→H} {w:World} {base:Nat} {sp:Nat→Bool} {held:Bool} {fuel:Nat} {l:List Value} {x:DataW H×List MemPlace} (hsz:l.length=4) (hf:DataW.trod enc Tryz.prog w base sp held fuel 58 l=some x):∃ m:Mk,l=mvs m∧(0≤m.mi∧m.mi≤255):=by
 obtain⟨c0,c1,c2,c3,rfl⟩:∃ c0 c1 c2 c3,l=[c0,c1,c2,c3]:=by
  match l,hsz with
  | [c0,c1,c2,c3],_=>exact⟨c0,c1,c2,c3,rfl⟩
 obtain⟨xs,n,_,hx,_,hlen,hfl⟩:=DataW.trod_struct Tryz.underlying58 hf
 match xs,hlen with
 | [y0,y1,y2,y3],_ =>
  have t0:DataW.trod enc Tryz.prog w base sp held n 36 (([c0,c1,c2,c3].drop 0).take (Tryz.prog.cellsOf 36))=some y0:=hfl 0 _ rfl
  have t1:DataW.trod enc Tryz.prog w base sp held n 9 (([c0,c1,c2,c3].drop 1).take (Tryz.prog.cellsOf 9))=some y1:=hfl 1 _ rfl
  have t2:DataW.trod enc Tryz.prog w base sp held n 3 (([c0,c1,c2,c3].drop 2).take (Tryz.prog.cellsOf 3))=some y2:=hfl 2 _ rfl
  have t3:DataW.trod enc Tryz.prog w base sp held n 3 (([c0,c1,c2,c3].drop 3).take (Tryz.prog.cellsOf 3))=some y3:=hfl 3 _ rfl
  rw[Tryz.cells36''] at t0
  rw[Tryz.cells9'] at t1
  rw[Tryz.cells3'] at t2 t3
  obtain⟨z0,e0,_,w0⟩:=DataW.trod_int Tryz.underlying36 (cs:=[c0]) t0
  obtain⟨z1,e1,_,_⟩:=DataW.trod_string Tryz.underlying9 (cs:=[c1]) t1
  obtain⟨z2,e2,_,_⟩:=DataW.trod_int Tryz.underlying3 (cs:=[c2]) t2
  obtain⟨z3,e3,_,_⟩:=DataW.trod_int Tryz.underlying3 (cs:=[c3]) t3
  simp only[List.cons.injEq,and_true] at e0 e1 e2 e3
  subst e0 e1 e2 e3
  exact⟨⟨z0,z1,z2,z3⟩,rfl,by have h0:=w0;simp[Lit.wf,IntKind.min,IntKind.max,IntKind.signed,IntKind.bits] at h0;omega⟩
theorem bytesC:Tryz.prog.bytesOf 54=80:=by kernel_rfl
theorem bytesM:Tryz.prog.bytesOf 58=40:=by kernel_rfl
theorem weights_in {H:Type} {P:Program} {e:TypeId} {n:Nat}:∀ {l:List (DataW H)} {d:DataW H},d∈l→n∈d.weights P e→n∈DataW.weightsAll P e l
 | x :: r,d,hd,hn=>by
  simp only[DataW.weightsAll,List.mem_append]
  rcases List.mem_cons.1 hd with rfl | hd
  ·exact Or.inl hn
  ·exact Or.inr (weights_in hd hn)
theorem cards_open {H:Type} {enc:TypeId×Value→H} {w:World} {base:Nat} {sp:Nat→Bool} {held:Bool} {fuel:Nat} {v:Value} {x:DataW H×List MemPlace}
  (h:DataW.trod enc Tryz.prog w base sp held fuel 67 [v]=some x) (hz:∀ n∈x.1.weights Tryz.prog 67,n≤reachBytes):∃ cs:List Ent,(∃ a k,v=.slice a cs.length k∧(0<cs.length→∃ g o,a=some ⟨g,o,none⟩∧EsAt w g o cs))∧(∀ e∈cs,PsAt w e.v e.ps∧Fits e.ps.length∧(e.h.with e.ps).wf)∧Small cs.length:=by
 rcases open_slice Tryz.underlying67 h with ⟨hcs,_⟩ | ⟨a,len,cp,m,f,D,Pl,hcs,_,hl,hm,hmm,hxx,hx⟩
 ·simp at hcs
  subst hcs
  exact⟨[],⟨none,0,rfl,fun h0=>by simp at h0⟩,by simp,by unfold Small;decide⟩
 ·simp at hcs
  subst hcs
  rw[Tryz.cells54'] at hx
  have hnm:len≤m:=by rw[hmm];split <;> omega
  have hp:∀ i,i<len→∃ e:Ent,(PsAt w e.v e.ps∧Fits e.ps.length∧(e.h.with e.ps).wf)∧∀ k u,(cvs e.h e.v)[k]?=some u→w.cell? ((a.add (i*9)).add k)=some u:=fun i hi=>by
   obtain⟨cs',h1,h2⟩:=hx i (by omega)
   obtain⟨_,hlen,hc⟩:=World.cells?_some h1
   obtain⟨hd,u,ps,e,p1,p2,p3⟩:=card_cells hlen h2 (fun n hn=>hz n (by
    rw[hxx]
    simp only[DataW.weights,Tryz.underlying67]
    exact List.mem_cons_of_mem _ (List.mem_append_left _ (weights_in (List.mem_map.2 ⟨i,List.mem_range.2 hi,rfl⟩) hn))))
   subst e
   refine⟨⟨hd,u,ps⟩,⟨p1,p2,wf_of p3.1 p3.2⟩,fun k y hk=>?_⟩
   have hk9:k<9:=(List.getElem?_eq_some_iff.1 hk).1
   rw[hc k hk9]
   exact hk
  haveI:Inhabited Ent:=⟨⟨Hd.none,.bool false,[]⟩⟩
  obtain⟨F,hF⟩:=choose_lt (α:=Ent) hp
  refine⟨(List.range len).map F,⟨some a,cp,by simp,fun h0=>?_⟩,?_,?_⟩
  ·have h0':0<len:=by simpa using h0
   have c0:=(hF 0 h0').2 0 _ rfl
   have ex:(a.add (0*9)).add 0=a:=by simp[Addr.add]
   rw[ex] at c0
   have pl:=addr_plain c0
   refine⟨a.block,a.off,by rw[←pl],fun j e he=>?_⟩
   have hj:j<len:=by have:=(List.getElem?_eq_some_iff.1 he).1;simpa using this
   obtain rfl:e=F j:=by simp[hj] at he;exact he.symm
   have at_:∀ k u,(cvs (F j).h (F j).v)[k]?=some u→w.cell? ⟨a.block,a.off+j*9+k,none⟩=some u:=fun k u hk=>by
    have:=(hF j hj).2 k u hk
    rw[add_add pl,pl,add_plain,←Nat.add_assoc] at this
    exact this
   exact⟨at_ 0 _ rfl,at_ 1 _ rfl,at_ 2 _ rfl,at_ 3 _ rfl,at_ 4 _ rfl,at_ 5 _ rfl,at_ 6 _ rfl,at_ 7 _ rfl,at_ 8 _ rfl⟩
  ·intro e he
   obtain⟨i,hi,rfl⟩:=List.mem_map.1 he
   exact(hF i (List.mem_range.1 hi)).1
  ·have hb:=hz ((len+(m - len))*80) (by rw[hxx];simp[DataW.weights,Tryz.underlying67,bytesC])
   unfold reachBytes at hb
   unfold Small
   simp only[List.length_map,List.length_range]
   omega
theorem marks_open {H:Type} {enc:TypeId×Value→H} {w:World} {base:Nat} {sp:Nat→Bool} {held:Bool} {fuel:Nat} {v:Value} {x:DataW H×List MemPlace}
  (h:DataW.trod enc Tryz.prog w base sp held fuel 68 [v]=some x) (hz:∀ n∈x.1.weights Tryz.prog 68,n≤reachBytes):∃ ms:List Mk,(∃ a k,v=.slice a ms.length k∧(0<ms.length→∃ g o,a=some ⟨g,o,none⟩∧MAt w g o ms))∧(∀ m∈ms,0≤m.mi∧m.mi≤255)∧Small ms.length:=by
 rcases open_slice Tryz.underlying68 h with ⟨hcs,_⟩ | ⟨a,len,cp,m,f,D,Pl,hcs,_,hl,hm,hmm,hxx,hx⟩
 ·simp at hcs
  subst hcs
  exact⟨[],⟨none,0,rfl,fun h0=>by simp at h0⟩,by simp,by unfold Small;decide⟩
 ·simp at hcs
  subst hcs
  rw[Tryz.cells58''] at hx
  have hnm:len≤m:=by rw[hmm];split <;> omega
  have hp:∀ i,i<len→∃ e:Mk,(0≤e.mi∧e.mi≤255)∧∀ k u,(mvs e)[k]?=some u→w.cell? ((a.add (i*4)).add k)=some u:=fun i hi=>by
   obtain⟨cs',h1,h2⟩:=hx i (by omega)
   obtain⟨_,hlen,hc⟩:=World.cells?_some h1
   obtain⟨e,he,hr⟩:=mark_cells hlen h2
   subst he
   refine⟨e,hr,fun k y hk=>?_⟩
   have hk4:k<4:=(List.getElem?_eq_some_iff.1 hk).1
   rw[hc k hk4]
   exact hk
  haveI:Inhabited Mk:=⟨Mk.none⟩
  obtain⟨F,hF⟩:=choose_lt (α:=Mk) hp
  refine⟨(List.range len).map F,⟨some a,cp,by simp,fun h0=>?_⟩,fun m hm=>by obtain⟨i,hi,rfl⟩:=List.mem_map.1 hm;exact(hF i (List.mem_range.1 hi)).1,by
   have hb:=hz ((len+(m - len))*40) (by rw[hxx];simp[DataW.weights,Tryz.underlying68,bytesM])
   unfold reachBytes at hb
   unfold Small
   simp only[List.length_map,List.length_range]
   omega⟩
  have h0':0<len:=by simpa using h0
  have c0:=(hF 0 h0').2 0 _ rfl
  have ex:(a.add (0*4)).add 0=a:=by simp[Addr.add]
  rw[ex] at c0
  have pl:=addr_plain c0
  refine⟨a.block,a.off,by rw[←pl],fun j e he=>?_⟩
  have hj:j<len:=by have:=(List.getElem?_eq_some_iff.1 he).1;simpa using this
  obtain rfl:e=F j:=by simp[hj] at he;exact he.symm
  have at_:∀ k u,(mvs (F j))[k]?=some u→w.cell? ⟨a.block,a.off+j*4+k,none⟩=some u:=fun k u hk=>by
   have:=(hF j hj).2 k u hk
   rw[add_add pl,pl,add_plain,←Nat.add_assoc] at this
   exact this
  exact⟨at_ 0 _ rfl,at_ 1 _ rfl,at_ 2 _ rfl,at_ 3 _ rfl⟩
structure FiA (w:World) (vc vm:Value) (cs:List Ent) (ms:List Mk):Prop where
 c:∃ a k,vc=.slice a cs.length k∧(0<cs.length→∃ g o,a=some ⟨g,o,none⟩∧EsAt w g o cs)
 m:∃ a k,vm=.slice a ms.length k∧(0<ms.length→∃ g o,a=some ⟨g,o,none⟩∧MAt w g o ms)
 ps:∀ e∈cs,PsAt w e.v e.ps∧Fits e.ps.length∧(e.h.with e.ps).wf
 mr:∀ m∈ms,0≤m.mi∧m.mi≤255
 cz:Small cs.length
 mz:Small ms.length
theorem FiA.keep {w w':World} {vc vm:Value} {cs:List Ent} {ms:List Mk} (h:FiA w vc vm cs ms) (g:w.grownBy w' none):FiA w' vc vm cs ms:=by
 obtain⟨⟨a,k,e,h1⟩,⟨c,m,i,h3⟩,h4,h5,h6,h7⟩:=h
 refine⟨⟨a,k,e,fun h0=>?_⟩,⟨c,m,i,fun h0=>?_⟩,fun e he=>⟨(h4 e he).1.keep g,(h4 e he).2⟩,h5,h6,h7⟩
 ·obtain⟨x,o,e1,e2⟩:=h1 h0;exact⟨x,o,e1,e2.keep g⟩
 ·obtain⟨x,o,e1,e2⟩:=h3 h0;exact⟨x,o,e1,e2.keep g⟩
theorem cellsOfFill:Tryz.prog.cellsOf 70=3:=by kernel_rfl
theorem Tryz.cells67'':Tryz.prog.cellsOf 67=1:=by kernel_rfl
theorem Tryz.cells4'':Tryz.prog.cellsOf 4=1:=by kernel_rfl
theorem Tryz.cells68'':Tryz.prog.cellsOf 68=1:=by kernel_rfl
theorem Tryz.own:ownKnob Tryz.prog.godebug=none:=by kernel_rfl
theorem Tryz.laidOut:laidOutB Tryz.prog=true:=by kernel_rfl
def thv (t:Th):Value:=.agg #[.int .i64 t.card,.int .i64 t.owner,.int .u8 t.place,.int .i64 t.stamp,.int .i64 t.hurt,.int .i64 t.m0,.int .i64 t.m1,.int .i64 t.m2,.int .i64 t.m3,.int .i64 t.done,.bool t.fresh]
theorem inI_of {n:Int} (h:(Lit.int .i64 n).wf=true):InI n:=i64_of h
theorem cOfI:Tryz.prog.cellsOf 3=1:=by kernel_rfl
theorem cOfB:Tryz.prog.cellsOf 4=1:=by kernel_rfl
theorem cOfPl:Tryz.prog.cellsOf 97=1:=by kernel_rfl
theorem cOfSu:Tryz.prog.cellsOf 34=1:=by kernel_rfl
theorem cOfTs:Tryz.prog.cellsOf 51=1:=by kernel_rfl
theorem cOf4:Tryz.prog.cellsOf 98=4:=by kernel_rfl
theorem cOfFe:Tryz.prog.cellsOf 65=5:=by kernel_rfl
theorem cOfTh:Tryz.prog.cellsOf 100=11:=by kernel_rfl
theorem four_cells {H:Type} {enc:TypeId×Value→H} {w:World} {base:Nat} {sp:Nat→Bool} {held:Bool} {fuel:Nat} {c0 c1 c2 c3:Value} {x:DataW H×List MemPlace} (hf:DataW.trod enc Tryz.prog w base sp held fuel 98 [c0,c1,c2,c3]=some x):∃ z0 z1 z2 z3:Int,c0=.int .i64 z0∧c1=.int .i64 z1∧c2=.int .i64 z2∧c3=.int .i64 z3∧InI z0∧InI z1∧InI z2∧InI z3:=by
 obtain⟨y0,y1,y2,y3,m,hx,hy0,hy1,hy2,hy3⟩:=trod_array4 Tryz.underlying98 cOfI hf
 obtain⟨x0,e0,_,w0⟩:=DataW.trod_int Tryz.underlying3 hy0
 obtain⟨x1,e1,_,w1⟩:=DataW.trod_int Tryz.underlying3 hy1
 obtain⟨x2,e2,_,w2⟩:=DataW.trod_int Tryz.underlying3 hy2
 obtain⟨x3,e3,_,w3⟩:=DataW.trod_int Tryz.underlying3 hy3
 simp only[List.cons.injEq,and_true] at e0 e1 e2 e3
 exact⟨x0,x1,x2,x3,e0,e1,e2,e3,inI_of w0,inI_of w1,inI_of w2,inI_of w3⟩
end Go.Proofs.YthfjgpjcepmnmaaGreat
