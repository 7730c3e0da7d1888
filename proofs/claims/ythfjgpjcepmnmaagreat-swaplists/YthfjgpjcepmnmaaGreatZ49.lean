/-
  Swaps: whether a thing is a unit,whom a swap is about,whether a thing is shielded,whether a swap swaps an event.
  Swaps: what a swap makes of an event: the map of functions,and these.
  Swaps: what an event is behind a swap.
  Swaps: behind: what an event is behind a swap that swaps it.
  Swaps: is a swap among those that were used;the next swap.
  Swaps: the next swap that was not used and swaps an event.
  Swaps: when two events are the same;all swaps,plainly.
  Swaps: what an event is behind all swaps.
  Swaps: lookAt,List,All.
  Swaps: All.
  Swaps: Swaps,Next.
  Swaps: Next.
  The document's swaps: may an event be?
  The document's swaps: what List and All refuse.
  The document's swaps: is one among those that were used?
  The document's swaps: what a swap makes of an event.
  The document's swaps: what it makes of an event is what the program makes of it.
  The document's swaps: whom one is about;whether one swaps an event.
  The document's swaps: does one of List's swap an event that may be?
-/
import Derived.Test.YthfjgpjcepmnmaaGreatZSwF
import Derived.Maps.OwnSet
import Derived.Laws.EntriesVeiled
import Derived.Test.YthfjgpjcepmnmaaGreatZ29
import Derived.Test.YthfjgpjcepmnmaaGreatZ37
import Derived.Deep.LoopGhost
import Derived.Test.YthfjgpjcepmnmaaGreatZ35
import Derived.BigQuiet
import Derived.Test.YthfjgpjcepmnmaaGreatZ22
import Derived.Test.YthfjgpjcepmnmaaGreatZ32
namespace Go.Proofs.YthfjgpjcepmnmaaGreat
open Go.RowKit
structure AIn (w:World) (bv vt vf:Value) (n:Int) (cd:Int→Hd×List Pt) (ts:List Th) (F:List Fe) (s:Sd) (z:Nat) (g:Fe):Prop where
 at1:thR.At w vt ts
 at2:feR.At w vf F
 card:SCard w bv n cd
 hz:s.th=(z:Int)+1
 hg:F[z]?=some g
 pl:g.ho=0∨g.ho=1
 len:ts.length=F.length
 few:ts.length≤2048
 be:∀ (j:Nat) t,ts[j]?=some t→1≤t.card∧t.card≤n
theorem AIn.keep {w w':World} {bv vt vf:Value} {n:Int} {cd:Int→Hd×List Pt} {ts:List Th} {F:List Fe} {s:Sd} {z:Nat} {g:Fe} (h:AIn w bv vt vf n cd ts F s z g) (q:w.grownBy w' none):AIn w' bv vt vf n cd ts F s z g:=⟨h.at1.keep q,h.at2.keep q,h.card.keep q,h.hz,h.hg,h.pl,h.len,h.few,h.be⟩
theorem hoN_at {F:List Fe} {s:Sd} {z:Nat} {g:Fe} (hz:s.th=(z:Int)+1) (hg:F[z]?=some g):hoN F s.th=g.ho:=by unfold hoN;rw[hz,toN,List.getD_eq_getElem?_getD,hg];rfl
open Go.MapKept Go.ChangeMaps

end Go.Proofs.YthfjgpjcepmnmaaGreat
namespace Go.Proofs.YthfjgpjcepmnmaaGreat
open Go.RowKit


open Go.Shelf

end Go.Proofs.YthfjgpjcepmnmaaGreat
namespace Go.Proofs.YthfjgpjcepmnmaaGreat
open Go.RowKit
def SwOk (F:List Fe) (s:Sd):Prop:=∃ (z:Nat) (g:Fe),s.th=(z:Int)+1∧F[z]?=some g∧(g.ho=0∨g.ho=1)∧16≤s.wh.vb∧s.wh.vb≤19
structure NIn (w:World) (bv vt vf vl:Value) (n:Int) (cd:Int→Hd×List Pt) (ts:List Th) (F:List Fe) (L:List Sd):Prop where
 at1:thR.At w vt ts
 at2:feR.At w vf F
 at3:sdR.At w vl L
 card:SCard w bv n cd
 len:ts.length=F.length
 few:ts.length≤2048
 be:∀ (j:Nat) t,ts[j]?=some t→1≤t.card∧t.card≤n
 ok:∀ s∈L,SwOk F s
theorem NIn.keep {w w':World} {bv vt vf vl:Value} {n:Int} {cd:Int→Hd×List Pt} {ts:List Th} {F:List Fe} {L:List Sd} (h:NIn w bv vt vf vl n cd ts F L) (q:w.grownBy w' none):NIn w' bv vt vf vl n cd ts F L:=⟨h.at1.keep q,h.at2.keep q,h.at3.keep q,h.card.keep q,h.len,h.few,h.be,h.ok⟩
theorem NIn.one {w:World} {bv vt vf vl:Value} {n:Int} {cd:Int→Hd×List Pt} {ts:List Th} {F:List Fe} {L:List Sd} {s:Sd} (h:NIn w bv vt vf vl n cd ts F L) (hs:SwOk F s):∃ z g,AIn w bv vt vf n cd ts F s z g∧g.ho=hoN F s.th∧16≤s.wh.vb∧s.wh.vb≤19:=by
 obtain⟨z,g,a,b,c,d,e⟩:=hs
 exact⟨z,g,⟨h.at1,h.at2,h.card,a,b,c,h.len,h.few,h.be⟩,(hoN_at a b).symm,d,e⟩
open Go.Shelf

end Go.Proofs.YthfjgpjcepmnmaaGreat
namespace Go.Proofs.YthfjgpjcepmnmaaGreat
open Go.RowKit

set_option maxRecDepth 100000
set_option maxHeartbeats 4000000
def swT (r n:Int) (cd:Int→Hd×List Pt) (ts:List Th) (F:List Fe):List Sd:=if bgE r n cd ts F 1=0 then (match tabR n cd ts F with | some R=>swL R F | none=>[]) else []
theorem swT_ok {r n:Int} {cd:Int→Hd×List Pt} {ts:List Th} {F:List Fe} {R:List Rw} (hb:bgE r n cd ts F 1=0) (hR:tabR n cd ts F=some R):swT r n cd ts F=swL R F:=by unfold swT;rw[if_pos hb,hR]
theorem swT_no {r n:Int} {cd:Int→Hd×List Pt} {ts:List Th} {F:List Fe} (hb:¬bgE r n cd ts F 1=0):swT r n cd ts F=[]:=by unfold swT;rw[if_neg hb]
theorem sw_mem {n:Int} {cd:Int→Hd×List Pt} {ts:List Th} {F:List Fe} {R:List Rw} (hT:Tab n cd ts F R) (hg:SwGood cd) {s:Sd} (hs:s∈swL R F):SwOk F s∧(s.wh.vb=16→1≤s.wh.ct∧s.wh.ct≤99):=by
 unfold swL at hs
 obtain⟨r,hr,hs⟩:=List.mem_flatMap.1 hs
 obtain⟨j,t,ht,h4,e⟩:=hT.row hr
 have hj:j<F.length:=by rw[←hT.len];exact(List.getElem?_eq_some_iff.1 ht).1
 obtain⟨f,hf⟩:∃ f,F[j]?=some f:=⟨_,List.getElem?_eq_getElem hj⟩
 have hm:=hT.may j t f ht hf h4
 unfold swOne at hs
 split at hs
 ·cases hs
 ·unfold swRow at hs
  obtain⟨x,hx,e2⟩:=List.mem_map.1 hs
  obtain⟨q,e3,hq,hw⟩:=plF_memS r.ps 0 6 x hx
  have hps:r.ps=(cd t.card).2:=by rw[e]
  have hin:s.wh∈(cd t.card).2:=by
   rw[←e2,e3]
   show r.ps.getD ((0+q:Nat):Int).toNat Pt.none∈_
   rw[Nat.zero_add,Int.toNat_natCast,getD_in hq,←hps]
   exact List.getElem_mem _
  have hw6:s.wh.wn=6:=by
   rw[←e2,e3]
   show (r.ps.getD ((0+q:Nat):Int).toNat Pt.none).wn=6
   rw[Nat.zero_add,Int.toNat_natCast]
   exact hw
  obtain⟨g1,g2,g3⟩:=hg _ _ hin hw6
  refine⟨⟨j,f,by rw[←e2,e],hf,?_,g1,g2⟩,fun q=>g3 (Or.inl q)⟩
  unfold mayLieB isPl at hm
  simp only[Bool.and_eq_true,Bool.or_eq_true,decide_eq_true_eq] at hm
  exact hm.1.2
theorem SIn.scene {w w':World} {bv vt vf vl:Value} {r n:Int} {cd:Int→Hd×List Pt} {ts:List Th} {F:List Fe} {R:List Rw} {B:Nat} (I:SIn w bv vt vf r n cd ts F) (hr:r=0) (hT:Tab n cd ts F R) (g:w.grownBy w' none) (O:DOwn w' B vl (swL R F)):NIn w' bv vt vf vl n cd ts F (swL R F):=⟨I.li.things.keep g,I.li.feats.keep g,RecT.Own.at O,(I.card hr).keep g,hT.len,(I.li.book hr).2,fun j t ht=>by
  have hj:j<F.length:=by rw[←hT.len];exact(List.getElem?_eq_some_iff.1 ht).1
  exact card_in (hT.mays ht (List.getElem?_eq_getElem hj)).1,fun s hs=>(sw_mem hT I.good hs).1⟩
theorem bg_tab {r n:Int} {cd:Int→Hd×List Pt} {ts:List Th} {F:List Fe} (h:bgE r n cd ts F 1=0):r=0∧∃ R,tabR n cd ts F=some R∧Tab n cd ts F R:=by
 obtain⟨a,_,R,c⟩:=bgE_of h
 exact⟨a,R,c,Tab.of c⟩
theorem slist_any (bv vt vf:Value) (r n:Int) (cd:Int→Hd×List Pt) (ts:List Th) (F:List Fe) (w:World) (I:SIn w bv vt vf r n cd ts F) (hb:∃ a,bv=.pointer a):Calls Tryz.prog 10 #[bv,vt,vf] w fun e w'=>∃ v,e=.returned (.tuple #[v,.int .i64 (bgE r n cd ts F 1)])∧DOwn w' w.heap.size v (swT r n cd ts F)∧w.grownBy w' none:=by
 have CL:=slook_any bv vt vf r n cd ts F w I hb
 obtain⟨ba,rfl⟩:=hb
 obtain⟨pt,ct,rfl⟩:=I.li.things.form
 obtain⟨pf,cf,rfl⟩:=I.li.feats.form
 unfold SkPost at CL
 clear I
 go_enter Tryz.func10,Tryz.ntmps10
 go_wp2_with fail
 refine CL.mono ?_
 rintro e2 w2 ⟨a,p1,m1,c1,p2,m2,c2,p3,m3,c3,rfl,g2,h2⟩
 obtain⟨q,hq⟩:∃ q,q=bgE r n cd ts F 1:=⟨_,rfl⟩
 have Hq:Hid (q=bgE r n cd ts F 1):=hq
 rw[←hq]
 obtain⟨V,hV⟩:∃ V,V=w2.alloc (.cells #[.pointer a,.slice p1 m1 c1,.slice p2 m2 c2,.slice p3 m3 c3] 136):=⟨_,rfl⟩
 have gV:w2.grownBy V none:=by rw[hV];exact World.grownBy_alloc _ _ none
 have HV:Hid (w.grownBy V none∧ScnB V w2.heap.size (.pointer a) (.slice p1 m1 c1) (.slice p2 m2 c2) (.slice p3 m3 c3)):=⟨grown_trans g2 gV,by rw[hV];exact alloc_at _ _ _⟩
 have H2:Hid (∀ R,r=0→tabR n cd ts F=some R→DOwn V w.heap.size (.slice p3 m3 c3) (swL R F)):=fun R x y=>own_grow (h2 R x y).2.2.2 gV
 clear CL g2 h2 hq gV
 go_upto_region 2 with fail
 rw[←hV]
 obtain⟨n2,hn2⟩:∃ n2,n2=w2.heap.size:=⟨_,rfl⟩
 rw[←hn2] at HV ⊢
 clear hV hn2
 obtain⟨s0,s1,s2,s3⟩:=scn_box HV.out.2
 by_cases hq0:q=0
 ·have k0:(q != 0)=false:=by simpa using hq0
  obtain⟨hr,R,hR,hT⟩:=bg_tab (Hq.out.symm.trans hq0)
  have HF:Hid (DOwn V w.heap.size (.slice p3 m3 c3) (swT r n cd ts F)∧q=0):=⟨by rw[swT_ok (Hq.out.symm.trans hq0) hR];exact H2.out R hr hR,hq0⟩
  clear hq0 hr hR hT H2
  go_wp2_with fail
  refine bodyPost_ret (v:=.tuple #[.slice p3 m3 c3,.int .i64 0]) (by simp[results,Tryz.results10,go_sem]) rfl ⟨_,by rw[←Hq.out,HF.out.2],HF.out.1,HV.out.1⟩
 ·have k0:(q != 0)=true:=by simpa using hq0
  have HF:Hid (swT r n cd ts F=[]):=swT_no (fun e=>hq0 (Hq.out.trans e))
  clear hq0 H2
  go_wp2_with fail
  refine bodyPost_ret (v:=.tuple #[.slice none 0 0,.int .i64 q]) (by simp[results,Tryz.results10,go_sem]) rfl ⟨_,by rw[←Hq.out],by rw[HF.out];exact RecT.Own.nil _ _ _ _,HV.out.1⟩

open Go.Shelf



theorem bgE_lk (r n:Int) (cd:Int→Hd×List Pt) (ts:List Th) (F:List Fe):bgE r n cd ts F 1=lkE r n cd ts F []:=by
 unfold bgE
 by_cases h:lkE r n cd ts F []=0
 ·rw[if_pos h,if_pos (by decide),h]
 ·rw[if_neg h]
theorem rwrong21_any (ok:Nat→Prop) (r:Nat) (v:Value) (p:Pl) (gs:List Ent) (vt vf:Value) (ts:List Th) (F:List Fe) (w:World) (B:RD ok w r v p gs) (A:thR.At w vt ts) (AF:feR.At w vf F) (hr:TrI F):Calls Tryz.prog 75 #[.pointer (some ⟨r,0,none⟩),vt,vf] w fun e w'=>e=.returned (.int .i64 (lkE (refE p ts.length) (gs.length:Int) (atC p gs) ts F []))∧w.grownBy w' none:=by
 have C1:=rnone_any r v p w B.rj
 have CS:=rsealed_any r v p w B.rj
 have C2:=rtogether_any ok r v p gs vt vf ts F w B A AF hr
 obtain⟨pt,ct,rfl⟩:=A.form
 obtain⟨pf,cf,rfl⟩:=AF.form
 clear B A AF hr
 go_enter Tryz.func75,Tryz.ntmps75
 go_wp2_with fail
 refine C1.mono ?_
 rintro e1 w1 ⟨rfl,hw1⟩
 rw[hw1]
 clear hw1 w1 C1
 by_cases h2:(2048:Int)<(ts.length:Int)
 ·have HE:Hid (lkE (refE p ts.length) (gs.length:Int) (atC p gs) ts F []=3):=by
   show _=_
   unfold refE
   rw[if_pos (by omega),wr_no (by decide)]
  have d2:decide ((2048:Int)<(ts.length:Int))=true:=decide_eq_true h2
  clear h2
  go_wp2_with fail
  go_ret
  exact⟨by rw[HE.out] <;> rfl,grown_refl _ _⟩
 ·have d2:decide ((2048:Int)<(ts.length:Int))=false:=decide_eq_false h2
  obtain⟨q,hq⟩:∃ q,q=togB p gs ts F:=⟨_,rfl⟩
  have HE:Hid (lkE (refE p ts.length) (gs.length:Int) (atC p gs) ts F []=if q then 0 else 2):=by
   show _=_
   rw[wr_tog (by omega),←hq]
  rw[←hq] at C2
  have HQ0:Hid (q=togB p gs ts F):=hq
  clear hq h2
  obtain⟨sh,hs⟩:∃ sh,sh=p.shut:=⟨_,rfl⟩
  rw[←hs] at CS
  have HQ:Hid (sh=false→q=false):=by rw[hs,HQ0.out];intro e;unfold togB;rw[e,Bool.false_and]
  clear hs HQ0
  cases sh with
  | false =>
   have hqf:=HQ.out rfl
   subst hqf
   clear C2
   go_wp2_with fail
   refine CS.mono ?_
   rintro e2 w2 ⟨rfl,hw2⟩
   rw[hw2]
   clear hw2 w2 CS
   go_wp2_with fail
   go_ret
   exact⟨by rw[HE.out] <;> rfl,grown_refl _ _⟩
  | true =>
   go_wp2_with fail
   refine CS.mono ?_
   rintro e2 w2 ⟨rfl,hw2⟩
   rw[hw2]
   clear hw2 w2 CS
   go_wp2_with fail
   refine C2.mono ?_
   rintro e2 w2 ⟨rfl,g2⟩
   have HG:Hid (w.grownBy w2 none):=g2
   clear C2 g2
   cases q with
   | true =>
    go_wp2_with fail
    go_ret
    exact⟨by rw[HE.out] <;> rfl,HG.out⟩
   | false =>
    go_wp2_with fail
    go_ret
    exact⟨by rw[HE.out] <;> rfl,HG.out⟩


end Go.Proofs.YthfjgpjcepmnmaaGreat
namespace Go.Proofs.YthfjgpjcepmnmaaGreat
open Go.RowKit

open Go.Shelf

structure RSw (ok:Nat→Prop) (w:World) (r:Nat) (v:Value) (p:Pl) (gs:List Ent) (vt vf:Value) (ts:List Th) (F:List Fe) (R:List Rw):Prop where
 rd:RD ok w r v p gs
 th:thR.At w vt ts
 fe:feR.At w vf F
 tab:Tab (gs.length:Int) (atC p gs) ts F R
 shut:p.shut=true
 few:ts.length≤2048
 good:SwGood (atC p gs)
theorem RSw.keep {ok:Nat→Prop} {w w':World} {r:Nat} {v:Value} {p:Pl} {gs:List Ent} {vt vf:Value} {ts:List Th} {F:List Fe} {R:List Rw} (h:RSw ok w r v p gs vt vf ts F R) (g:w.grownBy w' none):RSw ok w' r v p gs vt vf ts F R:=⟨h.rd.keep g,h.th.keep g,h.fe.keep g,h.tab,h.shut,h.few,h.good⟩
end Go.Proofs.YthfjgpjcepmnmaaGreat
