import Derived.Test.YtjmepebbcnhalaaGreatW9
import Derived.OwnWalk
import Derived.Test.YtjmepebbcnhalaaGreatWRCa
import Derived.Test.YtjmepebbcnhalaaGreatW14
import Derived.Test.YtjmepebbcnhalaaGreatW13
import Derived.Test.YtjmepebbcnhalaaGreatW21
import Derived.Deep.MidRow
namespace Go.Proofs.YtjmepebbcnhalaaGreat
open Go.RowKit
def eY (w:World) (g cap:Nat):Prop:=∃ cs,w.heap[g]?=some (.cells cs 62 (0,0))∧cs.size=cap*8
theorem eY.keep {w w':World} {g cap:Nat} {r:Option Nat} (h:eY w g cap) (k:w.grownBy w' r) (hr:some g≠r):eY w' g cap:=by
 obtain⟨cs,h1,h2⟩:=h
 exact⟨cs,ai k h1 hr,h2⟩
theorem eY.cell {w:World} {g cap:Nat} (h:eY w g cap) {i:Nat} (hi:i<cap*8):∃ u,w.cell? ⟨g,i,none⟩=some u:=by
 obtain⟨cs,h1,h2⟩:=h
 exact⟨cs[i]'(by omega),by rw[ae h1];exact Array.getElem?_eq_getElem (by omega)⟩
theorem eY.free {w:World} {g cap:Nat} (h:eY w g cap) (i:Nat):w.frozen? ⟨g,i,none⟩=false:=by
 obtain⟨cs,h1,_⟩:=h
 exact aA h1 i
theorem eY.set {w:World} {g cap:Nat} (h:eY w g cap) (i:Nat) (v:Value):eY (w.setCell ⟨g,i,none⟩ v) g cap:=by
 obtain⟨cs,h1,h2⟩:=h
 exact⟨cs.setIfInBounds i v,aF h1 i v,by simpa using h2⟩
def lim (n:Nat):Prop:=n≤maxLen
theorem lim.wrap {n k:Nat} (h:lim n) (hk:k<n):wrap64 ((k:Int)+1)=(k:Int)+1:=by unfold lim maxLen at h;unfold wrap64;omega
structure Pr (ok:Nat→Prop) (w:World) (b r:Nat) (v:Value) (es fs:List Ent) (p:Pl):Prop where
 book:dV ok w b es p
 rj:RJ w r v p
 rl:RL w v fs
 own:∀ k,v.ownBlock=some k→ok k∧k<w.heap.size
 good:cX ok w fs
 same:es.map hp=fs.map hp
 mkd:MkD p
 zero:p.nms[0]?=some ⟨#[]⟩
theorem kF {es fs:List Ent} (h:es.map hp=fs.map hp):es.length=fs.length:=by have:=congrArg List.length h;simpa using this
theorem rC {es fs:List Ent} (h:es.map hp=fs.map hp):bs es=bs fs:=by
 have:=congrArg (List.map fun x:Hd×List Pt=>x.1.nm) h
 rw[List.map_map,List.map_map] at this
 exact this
theorem Co {es fs:List Ent} (h:es.map hp=fs.map hp) (p:Pl) (c:Cd):caE p es c=caE p fs c:=by
 unfold caE
 rw[rC h,kF h]
theorem BE:∀ {es fs:List Ent} (_:es.map hp=fs.map hp) (h:Hd),rk es h=rk fs h
 | [],[],_,_=>rfl
 | [],_ :: _,e,_=>by simp at e
 | _ :: _,[],e,_=>by simp at e
 | x :: r,y :: t,e,h=>by
  rw[List.map_cons,List.map_cons] at e
  injection e with e1 e2
  injection e1 with e1 _
  simp only[rk]
  rw[e1,BE e2 h]
theorem Cg {es fs:List Ent} (h:es.map hp=fs.map hp) (hd:Hd) (u u':Value) (ps:List Pt):(ins es ⟨hd,u,ps⟩).map hp=(ins fs ⟨hd,u',ps⟩).map hp:=by
 unfold ins
 simp only[List.map_append,List.map_cons,List.map_take,List.map_drop]
 rw[h,BE h]
 rfl
theorem bY.pre {w:World} {g cap n:Nat} {ps qs:List Pt} (h:bY w (.slice (some ⟨g,0,none⟩) n cap) (ps++qs)):bY w (.slice (some ⟨g,0,none⟩) ps.length cap) ps:=by
 rcases h with ⟨e,_⟩ | ⟨ad,cp,e,hc,hcell⟩
 ·cases e
 ·injection e with e1 e2 e3
  injection e1 with e1
  subst e1
  subst e3
  refine Or.inr ⟨_,_,rfl,by rw[List.length_append] at hc;omega,fun j u hu=>hcell j u ?_⟩
  rw[mE,List.getElem?_append_left (List.getElem?_eq_some_iff.1 hu).1]
  exact hu
theorem Cn {es fs:List Ent} (h:es.map hp=fs.map hp) (p:Pl) (n:Int):atC p es n=atC p fs n:=by
 unfold atC
 have e:(es.map hp)[(n - 1).toNat]?=(fs.map hp)[(n - 1).toNat]?:=by rw[h]
 rw[List.getElem?_map,List.getElem?_map] at e
 split
 ·cases h1:es[(n - 1).toNat]? with
  | none =>
   cases h2:fs[(n - 1).toNat]? with
   | none=>rfl
   | some y=>rw[h1,h2] at e;cases e
  | some x =>
   cases h2:fs[(n - 1).toNat]? with
   | none=>rw[h1,h2] at e;cases e
   | some y =>
    rw[h1,h2] at e
    simp only[Option.map_some,Option.some.injEq] at e
    exact e
 ·rfl
theorem zl {p:Pl} {es:List Ent} {m:Nat} {e:Ent} (hs:p.shut=true) (he:es[m]?=some e):atC p es ((m:Int)+1)=(e.h,e.ps):=by
 unfold atC
 rw[if_pos ⟨hs,by omega⟩,show ((m:Int)+1 - 1).toNat=m by omega,he]
theorem qh {p:Pl} {es:List Ent} {n:Int} (h:¬mD p es n):atC p es n=(Hd.none,[]):=by
 unfold atC
 split
 ·rename_i h1
  have:es[(n - 1).toNat]?=none:=List.getElem?_eq_none (by
   have:¬n≤(es.length:Int):=fun h2=>h ⟨h1.1,h1.2,h2⟩
   omega)
  rw[this]
 ·rfl
theorem ta {p:Pl} {es:List Ent} {n:Int} (h:mD p es n):atX p es n=0:=by unfold atX;exact if_pos h
theorem lu {p:Pl} {es:List Ent} {n:Int} (h:¬mD p es n):atX p es n=6:=by unfold atX;exact if_neg h
def fO (p:Pl) (es:List Ent) (n:Int) (w:World) (e:Ending) (w':World):Prop:=∃ u,e=.returned (.tuple #[cv (atC p es n).1 u,.int .i64 (atX p es n)])∧bA w' w.heap.size u (atC p es n).2∧w.grownBy w' none
theorem zr (ok:Nat→Prop) (b:Nat) (es:List Ent) (p:Pl) (n:Int) (w:World) (B:dV ok w b es p):Calls Tryz.prog 189 #[.pointer (some ⟨b,0,none⟩),.int .i64 n] w (fO p es n w):=by
 by_cases h:mD p es n
 ·obtain⟨m,rfl⟩:∃ m:Nat,n=(m:Int)+1:=⟨(n - 1).toNat,by have:=h.2.1;omega⟩
  have hm:m<es.length:=by have:=h.2.2;omega
  refine(CY ok b es p m es[m] w B.lies B.good h.1 (List.getElem?_eq_getElem hm) (B.parts _ (List.getElem_mem _))).mono ?_
  rintro e w' ⟨u,rfl,o,g⟩
  unfold fO
  rw[ta h,zl h.1 (List.getElem?_eq_getElem hm)]
  exact⟨u,rfl,o,g⟩
 ·refine(Cm b es p n w B.lies h).mono ?_
  rintro e w' ⟨rfl,g⟩
  unfold fO
  rw[lu h,qh h]
  exact⟨_,rfl,bA.nil _ _,g⟩
structure RD (ok:Nat→Prop) (w:World) (r:Nat) (v:Value) (p:Pl) (fs:List Ent):Prop where
 rj:RJ w r v p
 rl:RL w v fs
 good:cX ok w fs
 len:fs.length≤64
 par:∀ e∈fs,e.ps.length≤4
 mkd:MkD p
theorem RD.keep {ok:Nat→Prop} {w w':World} {r:Nat} {v:Value} {p:Pl} {fs:List Ent} (h:RD ok w r v p fs) (g:w.grownBy w' none):RD ok w' r v p fs:=⟨h.rj.keep g,h.rl.keep g,h.good.keep g,h.len,h.par,h.mkd⟩
theorem B9 {es fs:List Ent} (h:es.map hp=fs.map hp) {e:Ent} (he:e∈fs):∃ d∈es,d.h=e.h∧d.ps=e.ps:=by
 have:hp e∈es.map hp:=by rw[h];exact List.mem_map_of_mem he
 obtain⟨d,hd,e1⟩:=List.mem_map.1 this
 exact⟨d,hd,congrArg Prod.fst e1,congrArg Prod.snd e1⟩
theorem Pr.rd {ok:Nat→Prop} {w:World} {b r:Nat} {v:Value} {es fs:List Ent} {p:Pl} (P:Pr ok w b r v es fs p):RD ok w r v p fs:=⟨P.rj,P.rl,P.good,by rw[←kF P.same];exact P.book.lies.len,fun e he=>by
 obtain⟨d,hd,_,h2⟩:=B9 P.same he
 rw[←h2]
 exact P.book.parts d hd,P.mkd⟩
theorem lv (ok:Nat→Prop) (r:Nat) (v:Value) (p:Pl) (fs:List Ent) (n:Int) (w:World) (B:RD ok w r v p fs):Calls Tryz.prog 144 #[.pointer (some ⟨r,0,none⟩),.int .i64 n] w (fO p fs n w):=by
 by_cases h:mD p fs n
 ·obtain⟨m,rfl⟩:∃ m:Nat,n=(m:Int)+1:=⟨(n - 1).toNat,by have:=h.2.1;omega⟩
  have hm:m<fs.length:=by have:=h.2.2;omega
  refine(Cc ok r v p fs m fs[m] w B.rj B.rl B.len B.good h.1 (List.getElem?_eq_getElem hm) (B.par _ (List.getElem_mem _))).mono ?_
  rintro e w' ⟨u,rfl,o,g⟩
  unfold fO
  rw[ta h,zl h.1 (List.getElem?_eq_getElem hm)]
  exact⟨u,rfl,o,g⟩
 ·refine(Bu r v p fs n w B.rj B.rl h).mono ?_
  rintro e w' ⟨rfl,g⟩
  unfold fO
  rw[lu h,qh h]
  exact⟨_,rfl,bA.nil _ _,g⟩


set_option maxRecDepth 100000
set_option maxHeartbeats 4000000
def kX (h:Hd) (ps:List Pt) (x:Int) (w:World) (e:Ending) (w':World):Prop:=∃ u,e=.returned (.tuple #[cv h u,.int .i64 x])∧bA w' w.heap.size u ps∧w.grownBy w' none
theorem zQ (bv:Value) (t:Th) (h:Hd) (ps:List Pt) (x:Int) (w:World) (HAt:∀ X,w.grownBy X none→Calls Tryz.prog 189 #[bv,.int .i64 t.card] X (kX h ps x X)):Calls Tryz.prog 192 #[bv,thv t] w (kX h ps x w):=by
 obtain⟨W0,hW0⟩:∃ W0,W0=w.alloc (.cells #[.int .i64 t.card,.int .i64 t.owner,.int .u8 t.place,.int .i64 t.stamp,.int .i64 t.hurt,.int .i64 t.m0,.int .i64 t.m1,.int .i64 t.m2,.int .i64 t.m3,.int .i64 t.done,.bool t.fresh] 120):=⟨_,rfl⟩
 obtain⟨W1,hW1⟩:∃ W1,W1=W0.alloc (.cells (ccs Hd.none (.slice none 0 0)) 111):=⟨_,rfl⟩
 have HG0:Hid (w.grownBy W0 none):=by rw[hW0];exact World.grownBy_alloc _ _ none
 have HG1:Hid (w.grownBy W1 none):=by rw[hW1];exact am HG0.out _
 have HC1:Hid (CAt W1 W0.heap.size Hd.none (.slice none 0 0)):=by rw[hW1];exact ak W0 _ _
 have HS:Hid (W0.heap.size=w.heap.size+1∧W1.heap.size=W0.heap.size+1):=⟨by rw[hW0,World.size_alloc],by rw[hW1,World.size_alloc]⟩
 have HT:Hid (W1.heap[w.heap.size]?=some (.cells #[.int .i64 t.card,.int .i64 t.owner,.int .u8 t.place,.int .i64 t.stamp,.int .i64 t.hurt,.int .i64 t.m0,.int .i64 t.m1,.int .i64 t.m2,.int .i64 t.m3,.int .i64 t.done,.bool t.fresh] 120 (0,0))):=by rw[hW1];exact ai (World.grownBy_alloc _ _ none) (by rw[hW0];exact ak w _ _) (by simp)
 have HA:=HAt W1 HG1.out
 unfold kX at HA
 obtain⟨K,hK⟩:∃ K,K=W0.heap.size:=⟨_,rfl⟩
 have HK:Hid (K=W0.heap.size):=hK
 rw[←hK] at HC1
 have hK2:K=w.heap.size+1:=by rw[hK,HS.out.1]
 unfold cv at HA
 unfold thv
 unfold ccs Hd.none at hW1
 rw[hW0] at hW1
 clear hW0 HAt hK
 go_enter Tryz.func192,Tryz.ntmps192
 go_upto_region 1 with fail
 rw[←hW1]
 clear hW1
 rw[←hK2]
 clear hK2
 have x0:=ae HT.out 0
 go_wp2_with (first | (go_at_call 189;refine HA.mono ?_;rintro e w2 ⟨u,rfl,o2,g2⟩;obtain⟨a2,k2,rfl⟩:=o2.at.form;have HO2:Hid (bA w2 W1.heap.size (.slice a2 ps.length k2) ps):=o2;have HG2:Hid (w.grownBy w2 none):=aa HG1.out g2;have C2:=HC1.out.keep g2;obtain⟨z0,z1,z2,z3,z4,z5,z6,z7,z8⟩:=C2.cells;have zf:=fun i=>C2.free i;simp only[Hd.none] at z0 z1 z2 z3 z4 z5 z6 z7 z8;clear o2 C2) | fail)
 refine bodyPost_ret (v:=.tuple #[cv h (.slice a2 ps.length k2),.int .i64 x]) (by simp[results,Tryz.results192,go_sem,z0,z1,z2,z3,z4,z5,z6,z7,z8,cv]) rfl ⟨.slice a2 ps.length k2,rfl,?_,?_⟩
 ·have:=(HO2.out.keep (cH w2 K 0 h (.slice a2 ps.length k2)) (fun x e=>by cases e;have:=HS.out;have:=HK.out;omega)).big (show w.heap.size≤W1.heap.size by have:=HS.out;omega)
  unfold fU at this
  simp only[Nat.zero_add] at this
  exact this
 ·have:=az HG2.out (cH w2 K 0 h (.slice a2 ps.length k2)) (fun x e=>by cases e;have:=HS.out;have:=HK.out;omega)
  unfold fU at this
  simp only[Nat.zero_add] at this
  exact this
theorem uc (ok:Nat→Prop) (b:Nat) (es:List Ent) (p:Pl) (t:Th) (w:World) (B:dV ok w b es p):Calls Tryz.prog 192 #[.pointer (some ⟨b,0,none⟩),thv t] w (kX (atC p es t.card).1 (atC p es t.card).2 (atX p es t.card) w):=zQ _ t _ _ _ w (fun X g=>zr ok b es p t.card X (B.keep g))
end Go.Proofs.YtjmepebbcnhalaaGreat
