import Derived.Test.YtjmepebbcnhalaaGreatRCa
namespace Go.Proofs.YtjmepebbcnhalaaGreat
open Go.RowKit
variable {w w' wr:World} {g cap b:Nat} {es:List Ent} {p:Pl} {n a d:Int} {ok:Nat→Prop} {v:Value}
def fg (w:World) (g cap:Nat):Prop:=∃ cs,w.heap[g]?=some (.cells cs 62 (0,0))∧cs.size=cap*8
theorem fg.keep {r:Option Nat} (h:fg w g cap) (k:w.grownBy w' r) (hr:some g≠r):fg w' g cap:=by
 obtain⟨cs,h1,h2⟩:=h
 exact⟨cs,ag k h1 hr,h2⟩
theorem fg.cell (h:fg w g cap) {i:Nat} (hi:i<cap*8):∃ u,w.cell? ⟨g,i,none⟩=some u:=by
 obtain⟨cs,h1,h2⟩:=h
 exact⟨cs[i]'(by omega),by rw[aa h1];exact Array.getElem?_eq_getElem (by omega)⟩
theorem fg.free (h:fg w g cap) (i:Nat):w.frozen? ⟨g,i,none⟩=false:=by
 obtain⟨cs,h1,_⟩:=h
 exact au h1 i
theorem fg.set (h:fg w g cap) (i:Nat) (v:Value):fg (w.setCell ⟨g,i,none⟩ v) g cap:=by
 obtain⟨cs,h1,h2⟩:=h
 exact⟨cs.setIfInBounds i v,aC h1 i v,by simpa using h2⟩
def lim (n:Nat):Prop:=n≤maxLen
theorem lim.wrap {n k:Nat} (h:lim n) (hk:k<n):wrap64 ((k:Int)+1)=(k:Int)+1:=by unfold lim maxLen at h;unfold wrap64;omega
structure Pr (ok:Nat→Prop) (w:World) (b r:Nat) (v:Value) (es fs:List Ent) (p:Pl):Prop where
 book:cG ok w b es p
 rj:RJ w r v p
 rl:RL w v fs
 own:∀ k,v.ownBlock=some k→ok k∧k<w.heap.size
 good:cU ok w fs
 same:es.map hp=fs.map hp
 mkd:MkD p
 zero:p.nms[0]?=some ⟨#[]⟩
theorem jN {fs:List Ent} (h:es.map hp=fs.map hp):es.length=fs.length:=by have:=congrArg List.length h;simpa using this
theorem tQ {fs:List Ent} (h:es.map hp=fs.map hp):aY es=aY fs:=by
 have:=congrArg (List.map fun x:Hd×List Pt=>x.1.nm) h
 rw[List.map_map,List.map_map] at this
 exact this
theorem Ep {fs:List Ent} (h:es.map hp=fs.map hp) (p:Pl) (c:Cd):caE p es c=caE p fs c:=by
 unfold caE
 rw[tQ h,jN h]
theorem Eh:∀ {es fs:List Ent} (_:es.map hp=fs.map hp) (h:Hd),rk es h=rk fs h
 | [],[],_,_=>rfl
 | [],_ :: _,e,_=>by simp at e
 | _ :: _,[],e,_=>by simp at e
 | x :: r,y :: t,e,h=>by
  rw[List.map_cons,List.map_cons] at e
  injection e with e1 e2
  injection e1 with e1 _
  simp only[rk]
  rw[e1,Eh e2 h]
theorem Fc {fs:List Ent} (h:es.map hp=fs.map hp) (hd:Hd) (u u':Value) (ps:List Pt):(ins es ⟨hd,u,ps⟩).map hp=(ins fs ⟨hd,u',ps⟩).map hp:=by
 unfold ins
 simp only[List.map_append,List.map_cons,List.map_take,List.map_drop]
 rw[h,Eh h]
 rfl
theorem Bi {fs:List Ent} (h:es.map hp=fs.map hp) (p:Pl) (n:Int):atC p es n=atC p fs n:=by
 unfold atC
 have e:(es.map hp)[(n - 1).toNat]?=(fs.map hp)[(n - 1).toNat]?:=by rw[h]
 rw[List.getElem?_map,List.getElem?_map] at e
 split
 ·cases h1:es[(n - 1).toNat]? with
  | none =>
   cases h2:fs[(n - 1).toNat]? with
   | none=>rfl
   | some y=>rw[h1,h2] at e;cases e
  | some x =>
   cases h2:fs[(n - 1).toNat]? with
   | none=>rw[h1,h2] at e;cases e
   | some y =>
    rw[h1,h2] at e
    simp only[Option.map_some,Option.some.injEq] at e
    exact e
 ·rfl
theorem F4 {fs:List Ent} (h:es.map hp=fs.map hp) (p:Pl) (n:Int):atX p es n=atX p fs n:=by unfold atX;rw[jN h]
theorem Aw {m:Nat} {e:Ent} (hs:p.shut=true) (he:es[m]?=some e):atC p es ((m:Int)+1)=(e.h,e.ps):=by
 unfold atC
 rw[if_pos ⟨hs,by omega⟩,show ((m:Int)+1 - 1).toNat=m by omega,he]
theorem qE (h:¬mV p es n):atC p es n=(Hd.none,[]):=by
 unfold atC
 split
 ·rename_i h1
  have:es[(n - 1).toNat]?=none:=List.getElem?_eq_none (by
   have:¬n≤(es.length:Int):=fun h2=>h ⟨h1.1,h1.2,h2⟩
   omega)
  rw[this]
 ·rfl
theorem vU (h:mV p es n):atX p es n=0:=by unfold atX;exact if_pos h
theorem mB (h:¬mV p es n):atX p es n=6:=by unfold atX;exact if_neg h
def gh (p:Pl) (es:List Ent) (n:Int) (w:World) (e:Ending) (w':World):Prop:=∃ u,e=.returned (.tuple #[cv (atC p es n).1 u,.int .i64 (atX p es n)])∧bG w' w.heap.size u (atC p es n).2∧w.grownBy w' none
theorem Af (ok:Nat→Prop) (b:Nat) (es:List Ent) (p:Pl) (n:Int) (w:World) (B:cG ok w b es p):Calls Tryz.prog 189 #[.pointer (some ⟨b,0,none⟩),.int .i64 n] w (gh p es n w):=by
 by_cases h:mV p es n
 ·obtain⟨m,rfl⟩:∃ m:Nat,n=(m:Int)+1:=⟨(n - 1).toNat,by have:=h.2.1;omega⟩
  have hm:m<es.length:=by have:=h.2.2;omega
  refine(FO ok b es p m es[m] w B.lies B.good h.1 (Qg hm) (B.parts _ (List.getElem_mem _))).mono ?_
  rintro e w' ⟨u,rfl,o,g⟩
  unfold gh
  rw[vU h,Aw h.1 (Qg hm)]
  exact⟨u,rfl,o,g⟩
 ·refine(AZ b es p n w B.lies h).mono ?_
  rintro e w' ⟨rfl,g⟩
  unfold gh
  rw[mB h,qE h]
  exact⟨_,rfl,bG.nil _ _,g⟩
structure RD (ok:Nat→Prop) (w:World) (r:Nat) (v:Value) (p:Pl) (fs:List Ent):Prop where
 rj:RJ w r v p
 rl:RL w v fs
 good:cU ok w fs
 len:fs.length≤64
 par:∀ e∈fs,e.ps.length≤4
 mkd:MkD p
theorem RD.keep {r:Nat} {fs:List Ent} (h:RD ok w r v p fs) (g:w.grownBy w' none):RD ok w' r v p fs:=⟨h.rj.keep g,h.rl.keep g,h.good.keep g,h.len,h.par,h.mkd⟩
theorem Dw {fs:List Ent} (h:es.map hp=fs.map hp) {e:Ent} (he:e∈fs):∃ d∈es,d.h=e.h∧d.ps=e.ps:=by
 have:hp e∈es.map hp:=by rw[h];exact List.mem_map_of_mem he
 obtain⟨d,hd,e1⟩:=List.mem_map.1 this
 exact⟨d,hd,congrArg Prod.fst e1,congrArg Prod.snd e1⟩
theorem Pr.rd {r:Nat} {fs:List Ent} (P:Pr ok w b r v es fs p):RD ok w r v p fs:=⟨P.rj,P.rl,P.good,by rw[←jN P.same];exact P.book.lies.len,fun e he=>by
 obtain⟨d,hd,_,h2⟩:=Dw P.same he
 rw[←h2]
 exact P.book.parts d hd,P.mkd⟩
theorem jV (ok:Nat→Prop) (r:Nat) (v:Value) (p:Pl) (fs:List Ent) (n:Int) (w:World) (B:RD ok w r v p fs):Calls Tryz.prog 144 #[.pointer (some ⟨r,0,none⟩),.int .i64 n] w (gh p fs n w):=by
 by_cases h:mV p fs n
 ·obtain⟨m,rfl⟩:∃ m:Nat,n=(m:Int)+1:=⟨(n - 1).toNat,by have:=h.2.1;omega⟩
  have hm:m<fs.length:=by have:=h.2.2;omega
  refine(Fp ok r v p fs m fs[m] w B.rj B.rl B.len B.good h.1 (Qg hm) (B.par _ (List.getElem_mem _))).mono ?_
  rintro e w' ⟨u,rfl,o,g⟩
  unfold gh
  rw[vU h,Aw h.1 (Qg hm)]
  exact⟨u,rfl,o,g⟩
 ·refine(Dm r v p fs n w B.rj B.rl h).mono ?_
  rintro e w' ⟨rfl,g⟩
  unfold gh
  rw[mB h,qE h]
  exact⟨_,rfl,bG.nil _ _,g⟩
set_option maxRecDepth 100000
set_option maxHeartbeats 4000000
def okc (c:Int):Bool:=decide (0≤c) && decide (c≤99)
def dI (c0 c1 c2 c3:Int):Bool:=okc c0 && (okc c1 && (okc c2 && okc c3))
theorem dY {c:Int} (h:okc c=true):0≤c∧c≤99:=by unfold okc at h;simpa using h
theorem iQ {c:Int} (h:okc c=false):c<0∨99<c:=by
 unfold okc at h
 have:¬(0≤c∧c≤99):=fun q=>by simp[q.1,q.2] at h
 omega
theorem rQ {a b:Bool} (h:a=b):Ending.returned (.bool a)=Ending.returned (.bool b):=by rw[h]
def MlR (c0 c1 c2 c3:Int) (k:Nat):Prop:=(k ≥ 1→okc c0=true)∧(k ≥ 2→okc c1=true)∧(k ≥ 3→okc c2=true)∧(k ≥ 4→okc c3=true)
theorem FA (c0 c1 c2 c3:Int) (w:World):(Instr.index 118 (.agg #[.int .i64 c0,.int .i64 c1,.int .i64 c2,.int .i64 c3]) (.int .i64 0)).run Tryz.prog w=.ok (.int .i64 c0) w:=by kernel_rfl
theorem FN (c0 c1 c2 c3:Int) (w:World):(Instr.index 118 (.agg #[.int .i64 c0,.int .i64 c1,.int .i64 c2,.int .i64 c3]) (.int .i64 1)).run Tryz.prog w=.ok (.int .i64 c1) w:=by kernel_rfl
theorem FC (c0 c1 c2 c3:Int) (w:World):(Instr.index 118 (.agg #[.int .i64 c0,.int .i64 c1,.int .i64 c2,.int .i64 c3]) (.int .i64 2)).run Tryz.prog w=.ok (.int .i64 c2) w:=by kernel_rfl
theorem Ft (c0 c1 c2 c3:Int) (w:World):(Instr.index 118 (.agg #[.int .i64 c0,.int .i64 c1,.int .i64 c2,.int .i64 c3]) (.int .i64 3)).run Tryz.prog w=.ok (.int .i64 c3) w:=by kernel_rfl
theorem lW (ok:Nat→Prop) (b:Nat) (es:List Ent) (p:Pl) (w:World) (B:cG ok w b es p):Calls Tryz.prog 221 #[.pointer (some ⟨b,0,none⟩)] w fun e w'=>e=.returned (.bool true)∧w.grownBy w' none:=by
 have HA:=AZ b es p 0 w B.lies (fun h=>by have:=h.2.1;omega)
 unfold cv Hd.none at HA
 clear B
 go_enter Tryz.func221,Tryz.ntmps221
 go_wp2_with fail
 refine HA.mono ?_
 rintro e w1 ⟨rfl,g1⟩
 have HG:Hid (w.grownBy w1 none):=g1
 clear HA g1
 go_wp2_with fail
 go_ret
 exact⟨rfl,al HG.out _⟩
theorem tX (v:Value) (w:World) (B:kI w v):Calls Tryz.prog 221 #[v] w fun e w'=>e=.returned (.bool false)∧w.grownBy w' none:=by
 have HA:=AQ v 0 w B
 unfold cv Hd.none at HA
 clear B
 go_enter Tryz.func221,Tryz.ntmps221
 go_wp2_with fail
 refine HA.mono ?_
 rintro e w1 ⟨rfl,g1⟩
 have HG:Hid (w.grownBy w1 none):=g1
 clear HA g1
 go_wp2_with fail
 go_ret
 exact⟨rfl,al HG.out _⟩
theorem lT (c0 c1 c2 c3:Int) (w:World):Calls Tryz.prog 222 #[.agg #[.int .i64 c0,.int .i64 c1,.int .i64 c2,.int .i64 c3]] w fun e w'=>e=.returned (.bool (dI c0 c1 c2 c3))∧w.grownBy w' none:=by
 have i0:=FA c0 c1 c2 c3
 have i1:=FN c0 c1 c2 c3
 have i2:=FC c0 c1 c2 c3
 have i3:=Ft c0 c1 c2 c3
 obtain⟨W,hW⟩:=Qe (w.alloc (.cells #[.int .i64 c0,.int .i64 c1,.int .i64 c2,.int .i64 c3] 118))
 have HG:Hid (w.grownBy W none):=by rw[hW];exact QG
 have HB:Hid (W.heap[w.heap.size]?=some (.cells #[.int .i64 c0,.int .i64 c1,.int .i64 c2,.int .i64 c3] 118 (0,0))):=by rw[hW];exact ak w _ _
 go_enter Tryz.func222,Tryz.ntmps222
 go_upto_region 1 with fail
 rw[←hW]
 clear hW
 have x0:=aa HB.out 0
 have x1:=aa HB.out 1
 have x2:=aa HB.out 2
 have x3:=aa HB.out 3
 go_wp2_with fail
 clear x0 x1 x2 x3
 go_loopw [4,6] (fun _ x wr=>∃ k:Nat,k≤4∧x=.int .i64 (k:Int)∧Hid (wr=W∧MlR c0 c1 c2 c3 k)) (fun _ x _=>4 - (intOf x).toNat)
 case atStart=>exact⟨0,by decide,rfl,rfl,fun h=>absurd h (by decide),fun h=>absurd h (by decide),fun h=>absurd h (by decide),fun h=>absurd h (by decide)⟩
 case round =>
  obtain⟨k,hk,rfl,HR⟩:=hrel
  obtain⟨rfl,hK⟩:=HR.out
  have HK:Hid (MlR c0 c1 c2 c3 k):=hK
  clear hK HR
  rcases (show k=0∨k=1∨k=2∨k=3∨k=4 from by omega) with rfl | rfl | rfl | rfl | rfl
  ·cases h0:okc c0 with
   | false =>
    have E:dI c0 c1 c2 c3=false:=by unfold dI;have q:=HK.out;unfold MlR at q;simp[h0]
    have HE:Hid (dI c0 c1 c2 c3=false):=E
    clear E HK
    rcases iQ h0 with l | l
    ·clear h0
     have l':(decide (c0<0))=true:=by simpa using l
     go_wp2
     go_ret
     exact⟨rQ HE.out.symm,HG.out⟩
    ·clear h0
     have l1:¬c0<0:=by omega
     go_wp2
     go_ret
     exact⟨rQ HE.out.symm,HG.out⟩
   | true =>
    have HK2:Hid (MlR c0 c1 c2 c3 1):=by have q:=HK.out;have r:=h0;exact⟨fun _=>r,fun h=>absurd h (by decide),fun h=>absurd h (by decide),fun h=>absurd h (by decide)⟩
    have l:=dY h0
    have l1:¬c0<0:=by omega
    have l2:¬99<c0:=by omega
    clear h0 HK l
    go_wp2
    go_roundw
    case rel=>exact⟨1,by decide,rfl,by first | exact⟨rfl,HK2.out⟩ | exact⟨trivial,HK2.out⟩⟩
    case measure=>simp[intOf]
  ·cases h1:okc c1 with
   | false =>
    have E:dI c0 c1 c2 c3=false:=by unfold dI;have q:=HK.out;unfold MlR at q;simp[h1]
    have HE:Hid (dI c0 c1 c2 c3=false):=E
    clear E HK
    rcases iQ h1 with l | l
    ·clear h1
     have l':(decide (c1<0))=true:=by simpa using l
     go_wp2
     go_ret
     exact⟨rQ HE.out.symm,HG.out⟩
    ·clear h1
     have l1:¬c1<0:=by omega
     go_wp2
     go_ret
     exact⟨rQ HE.out.symm,HG.out⟩
   | true =>
    have HK2:Hid (MlR c0 c1 c2 c3 2):=by have q:=HK.out;have r:=h1;exact⟨fun _=>q.1 (by decide),fun _=>r,fun h=>absurd h (by decide),fun h=>absurd h (by decide)⟩
    have l:=dY h1
    have l1:¬c1<0:=by omega
    have l2:¬99<c1:=by omega
    clear h1 HK l
    go_wp2
    go_roundw
    case rel=>exact⟨2,by decide,rfl,by first | exact⟨rfl,HK2.out⟩ | exact⟨trivial,HK2.out⟩⟩
    case measure=>simp[intOf]
  ·cases h2:okc c2 with
   | false =>
    have E:dI c0 c1 c2 c3=false:=by unfold dI;have q:=HK.out;unfold MlR at q;simp[h2]
    have HE:Hid (dI c0 c1 c2 c3=false):=E
    clear E HK
    rcases iQ h2 with l | l
    ·clear h2
     have l':(decide (c2<0))=true:=by simpa using l
     go_wp2
     go_ret
     exact⟨rQ HE.out.symm,HG.out⟩
    ·clear h2
     have l1:¬c2<0:=by omega
     go_wp2
     go_ret
     exact⟨rQ HE.out.symm,HG.out⟩
   | true =>
    have HK2:Hid (MlR c0 c1 c2 c3 3):=by have q:=HK.out;have r:=h2;exact⟨fun _=>q.1 (by decide),fun _=>q.2.1 (by decide),fun _=>r,fun h=>absurd h (by decide)⟩
    have l:=dY h2
    have l1:¬c2<0:=by omega
    have l2:¬99<c2:=by omega
    clear h2 HK l
    go_wp2
    go_roundw
    case rel=>exact⟨3,by decide,rfl,by first | exact⟨rfl,HK2.out⟩ | exact⟨trivial,HK2.out⟩⟩
    case measure=>simp[intOf]
  ·cases h3:okc c3 with
   | false =>
    have E:dI c0 c1 c2 c3=false:=by unfold dI;have q:=HK.out;unfold MlR at q;simp[h3]
    have HE:Hid (dI c0 c1 c2 c3=false):=E
    clear E HK
    rcases iQ h3 with l | l
    ·clear h3
     have l':(decide (c3<0))=true:=by simpa using l
     go_wp2
     go_ret
     exact⟨rQ HE.out.symm,HG.out⟩
    ·clear h3
     have l1:¬c3<0:=by omega
     go_wp2
     go_ret
     exact⟨rQ HE.out.symm,HG.out⟩
   | true =>
    have HK2:Hid (MlR c0 c1 c2 c3 4):=by have q:=HK.out;have r:=h3;exact⟨fun _=>q.1 (by decide),fun _=>q.2.1 (by decide),fun _=>q.2.2.1 (by decide),fun _=>r⟩
    have l:=dY h3
    have l1:¬c3<0:=by omega
    have l2:¬99<c3:=by omega
    clear h3 HK l
    go_wp2
    go_roundw
    case rel=>exact⟨4,by decide,rfl,by first | exact⟨rfl,HK2.out⟩ | exact⟨trivial,HK2.out⟩⟩
    case measure=>simp[intOf]
  ·have E:dI c0 c1 c2 c3=true:=by have q:=HK.out;unfold dI;simp[q.1 (by decide),q.2.1 (by decide),q.2.2.1 (by decide),q.2.2.2 (by decide)]
   have HE:Hid (dI c0 c1 c2 c3=true):=E
   clear E HK
   go_wp2
   go_ret
   exact⟨rQ HE.out.symm,HG.out⟩
set_option maxHeartbeats 8000000
structure MkS (w wr:World) (F R:Nat) (a b c d e:Int):Prop where
 g:w.grownBy wr none
 f:wr.heap[F]?=some (.cells #[.int .i64 a,.int .u8 b,.int .u16 c,.int .i64 d,.int .i64 e] 122 (0,0))
 r:wr.heap[R]?=some (.cells #[.int .i64 0,.int .u8 0,.int .u16 0,.int .i64 0,.int .i64 0] 122 (0,0))
 hF:w.heap.size≤F
 hR:w.heap.size≤R
 ne:¬F=R
theorem MkS.grow {w2:World} {F R:Nat} {b c e:Int} (h:MkS w wr F R a b c d e) (g:wr.grownBy w2 none):MkS w w2 F R a b c d e:=⟨ae h.g g,ag g h.f (by simp),ag g h.r (by simp),h.hF,h.hR,h.ne⟩
theorem MkS.set3 {F R:Nat} {b c e:Int} (h:MkS w wr F R a b c d e) (x:Int):MkS w (wr.setCell ⟨F,3,none⟩ (.int .i64 x)) F R a b c x e:=⟨ar h.g (aj _ _ _ _) (fun y e=>by cases e;exact h.hF),aC h.f _ _,ag (aj wr F 3 (.int .i64 x)) h.r (fun e=>by injection e with e;exact h.ne e.symm),h.hF,h.hR,h.ne⟩
theorem MkS.set4 {F R:Nat} {b c e:Int} (h:MkS w wr F R a b c d e) (x:Int):MkS w (wr.setCell ⟨F,4,none⟩ (.int .i64 x)) F R a b c d x:=⟨ar h.g (aj _ _ _ _) (fun y e=>by cases e;exact h.hF),aC h.f _ _,ag (aj wr F 4 (.int .i64 x)) h.r (fun e=>by injection e with e;exact h.ne e.symm),h.hF,h.hR,h.ne⟩
theorem fO (w:World) (o:Obj) (cs:Array Value) (t:TypeId):((w.alloc o).alloc (.cells cs t)).heap[w.heap.size+1]?=some (.cells cs t (0,0)):=by have:=ak (w.alloc o) cs t;rwa [World.size_alloc] at this
theorem jv (w:World) (o o2:Obj) (cs:Array Value) (t:TypeId):(((w.alloc o).alloc o2).alloc (.cells cs t)).heap[w.heap.size+1+1]?=some (.cells cs t (0,0)):=by have:=ak ((w.alloc o).alloc o2) cs t;rwa [World.size_alloc,World.size_alloc] at this
def zk (p:Pl) (c0 c1 c2 c3:Int) (k:Nat):List (Int×Mk):=(zs p c0 c1 c2 c3).take k
theorem Bm (a:Int):Bc a=max a 0:=by unfold Bc;split <;> omega
theorem tZ (ok:Nat→Prop) (b:Nat) (es:List Ent) (p:Pl) (f:Fe) (c0 c1 c2 c3:Int) (w:World) (B:cG ok w b es p) (hc:dI c0 c1 c2 c3=true):Calls Tryz.prog 155 #[.pointer (some ⟨b,0,none⟩),fev f,.agg #[.int .i64 c0,.int .i64 c1,.int .i64 c2,.int .i64 c3]] w fun e w'=>e=.returned (.tuple #[fev (lw p f c0 c1 c2 c3),.int .i64 0])∧w.grownBy w' none:=by
 have i0:=FA c0 c1 c2 c3
 have i1:=FN c0 c1 c2 c3
 have i2:=FC c0 c1 c2 c3
 have i3:=Ft c0 c1 c2 c3
 obtain⟨W,hW⟩:=Qe (((w.alloc (.cells (fcs f) 122)).alloc (.cells #[.int .i64 c0,.int .i64 c1,.int .i64 c2,.int .i64 c3] 118)).alloc (.cells #[.int .i64 0,.int .u8 0,.int .u16 0,.int .i64 0,.int .i64 0] 122))
 have HS0:Hid (MkS w W w.heap.size (w.heap.size+1+1) f.ho f.su f.tr f.po f.he):=by
  rw[hW]
  refine⟨al (al QG _) _,?_,?_,Qj _,by omega,by omega⟩
  ·exact ag QG (ag QG (ak w _ _) (by simp)) (by simp)
  ·exact jv _ _ _ _ _
 have HA4:Hid (W.heap[w.heap.size+1]?=some (.cells #[.int .i64 c0,.int .i64 c1,.int .i64 c2,.int .i64 c3] 118 (0,0))):=by
  rw[hW]
  exact ag QG (fO _ _ _ _) (by simp)
 have HB:Hid (cG ok w b es p):=B
 have HIB:=lW ok b es p W (B.keep HS0.out.g)
 have HML:=fun X=>lT c0 c1 c2 c3 X
 rw[hc] at HML
 unfold fcs at hW
 unfold fev
 clear B hc
 go_enter Tryz.func155,Tryz.ntmps155
 go_upto_region 1 with fail
 rw[←hW]
 clear hW
 obtain⟨F,hF⟩:=Qe (w.heap.size)
 rw[←hF] at HS0 HA4 ⊢
 obtain⟨V,hV⟩:=Qe (F+1)
 simp only[←hV] at HS0 HA4 ⊢
 obtain⟨R,hR⟩:=Qe (V+1)
 simp only[←hR] at HS0 ⊢
 clear hF hR hV
 go_wp2_with fail
 refine HIB.mono ?_
 rintro e w1 ⟨rfl,g1⟩
 have HS1:Hid (MkS w w1 F R f.ho f.su f.tr f.po f.he):=HS0.out.grow g1
 have HA1:Hid (w1.heap[V]?=some (.cells #[.int .i64 c0,.int .i64 c1,.int .i64 c2,.int .i64 c3] 118 (0,0))):=ag g1 HA4.out (by simp)
 clear HS0 HA4 g1 HIB
 have x0:=aa HA1.out 0
 have x1:=aa HA1.out 1
 have x2:=aa HA1.out 2
 have x3:=aa HA1.out 3
 go_wp2_with fail
 refine(HML w1).mono ?_
 rintro e w2 ⟨rfl,g2⟩
 have HS2:Hid (MkS w w2 F R f.ho f.su f.tr f.po f.he):=HS1.out.grow g2
 have HA2:Hid (w2.heap[V]?=some (.cells #[.int .i64 c0,.int .i64 c1,.int .i64 c2,.int .i64 c3] 118 (0,0))):=ag g2 HA1.out (by simp)
 clear HS1 HA1 g2 HML x0 x1 x2 x3
 have x0:=aa HA2.out 0
 have x1:=aa HA2.out 1
 have x2:=aa HA2.out 2
 have x3:=aa HA2.out 3
 go_wp2_with fail
 clear x0 x1 x2 x3
 go_loopw [8,9,10,11,23] (fun _ _ _ _ x wr=>∃ k:Nat,k≤4∧x=.int .i64 (k:Int)∧Hid (MkS w wr F R f.ho f.su f.tr (dG f.po (zk p c0 c1 c2 c3 k)) (dL f.he (zk p c0 c1 c2 c3 k)))) (fun _ _ _ _ x _=>4 - (intOf x).toNat)
 case atStart=>exact⟨0,by decide,rfl,HS2⟩
 case round =>
  obtain⟨k,hk,rfl,HS⟩:=hrel
  clear HS2 HA2
  obtain⟨pk,hpk⟩:=Qe (dG f.po (zk p c0 c1 c2 c3 k))
  obtain⟨hk2,hhk⟩:=Qe (dL f.he (zk p c0 c1 c2 c3 k))
  rw[←hpk,←hhk] at HS
  have HPk:Hid (pk=dG f.po (zk p c0 c1 c2 c3 k)):=hpk
  have HHk:Hid (hk2=dL f.he (zk p c0 c1 c2 c3 k)):=hhk
  clear hpk hhk
  rcases (show k=0∨k=1∨k=2∨k=3∨k=4 from by omega) with rfl | rfl | rfl | rfl | rfl
  ·obtain⟨⟨mi,mn,mp,mh⟩,hm⟩:∃ m,m=moM p 1:=⟨_,rfl⟩
   have HM:=iz b es p 1 (by decide) wr (HB.out.keep HS.out.g).lies
   rw[←hm] at HM
   unfold mv at HM
   have HP:Hid (dG f.po (zk p c0 c1 c2 c3 1)=wrap64 (pk+wrap64 (c0*mp))):=by
    have q:=HPk.out
    show dG f.po (zk p c0 c1 c2 c3 0++[(c0,moM p 1)])=_
    rw[eC,←hm,←q]
    rfl
   have HH:Hid (dL f.he (zk p c0 c1 c2 c3 1)=wrap64 (hk2+wrap64 (c0*mh))):=by
    have q:=HHk.out
    show dL f.he (zk p c0 c1 c2 c3 0++[(c0,moM p 1)])=_
    rw[ey,←hm,←q]
    rfl
   have HMo:Hid (moB p 1=moB p 1):=rfl
   obtain⟨mb,hmb⟩:=Qe (moB p 1)
   rw[←hmb] at HM
   clear hm hmb HPk HHk HMo
   go_upto_region 9 with (first | (go_at_call 223;refine HM.mono ?_;rintro e w2 ⟨rfl,g2⟩;have HG2:Hid (wr.grownBy w2 none):=g2;clear g2) | fail)
   obtain⟨X,hX⟩:=Qe (w2.alloc (.cells #[.int .u8 mi,.string mn,.int .i64 mp,.int .i64 mh] 115))
   have HX:Hid (MkS w X F R f.ho f.su f.tr pk hk2):=by rw[hX];exact(HS.out.grow HG2.out).grow QG
   have HXm:Hid (X.heap[w2.heap.size]?=some (.cells #[.int .u8 mi,.string mn,.int .i64 mp,.int .i64 mh] 115 (0,0))):=by rw[hX];exact ak _ _ _
   rw[←hX]
   clear hX HM
   obtain⟨G,hG⟩:=Qe (w2.heap.size)
   rw[←hG] at HXm ⊢
   clear hG
   have y3:=aa HX.out.f 3
   have y4:=aa HX.out.f 4
   have yf:=fun i=>au HX.out.f i
   have z2:=aa HXm.out 2
   have z3:=aa HXm.out 3
   have HN:Hid (¬F=G):=fun e=>by
    have a:=HX.out.f
    have c:=HXm.out
    rw[e,c] at a
    cases a
   have hne:¬F=G:=HN.out
   have hne':¬G=F:=fun e=>HN.out e.symm
   clear HN
   go_wp2
   go_roundw
   case rel=>exact⟨1,by decide,rfl,by rw[HP.out,HH.out];exact(HX.out.set3 _).set4 _⟩
   case measure=>simp[intOf]
  ·obtain⟨⟨mi,mn,mp,mh⟩,hm⟩:∃ m,m=moM p 2:=⟨_,rfl⟩
   have HM:=iz b es p 2 (by decide) wr (HB.out.keep HS.out.g).lies
   rw[←hm] at HM
   unfold mv at HM
   have HP:Hid (dG f.po (zk p c0 c1 c2 c3 2)=wrap64 (pk+wrap64 (c1*mp))):=by
    have q:=HPk.out
    show dG f.po (zk p c0 c1 c2 c3 1++[(c1,moM p 2)])=_
    rw[eC,←hm,←q]
    rfl
   have HH:Hid (dL f.he (zk p c0 c1 c2 c3 2)=wrap64 (hk2+wrap64 (c1*mh))):=by
    have q:=HHk.out
    show dL f.he (zk p c0 c1 c2 c3 1++[(c1,moM p 2)])=_
    rw[ey,←hm,←q]
    rfl
   have HMo:Hid (moB p 2=moB p 2):=rfl
   obtain⟨mb,hmb⟩:=Qe (moB p 2)
   rw[←hmb] at HM
   clear hm hmb HPk HHk HMo
   go_upto_region 9 with (first | (go_at_call 223;refine HM.mono ?_;rintro e w2 ⟨rfl,g2⟩;have HG2:Hid (wr.grownBy w2 none):=g2;clear g2) | fail)
   obtain⟨X,hX⟩:=Qe (w2.alloc (.cells #[.int .u8 mi,.string mn,.int .i64 mp,.int .i64 mh] 115))
   have HX:Hid (MkS w X F R f.ho f.su f.tr pk hk2):=by rw[hX];exact(HS.out.grow HG2.out).grow QG
   have HXm:Hid (X.heap[w2.heap.size]?=some (.cells #[.int .u8 mi,.string mn,.int .i64 mp,.int .i64 mh] 115 (0,0))):=by rw[hX];exact ak _ _ _
   rw[←hX]
   clear hX HM
   obtain⟨G,hG⟩:=Qe (w2.heap.size)
   rw[←hG] at HXm ⊢
   clear hG
   have y3:=aa HX.out.f 3
   have y4:=aa HX.out.f 4
   have yf:=fun i=>au HX.out.f i
   have z2:=aa HXm.out 2
   have z3:=aa HXm.out 3
   have HN:Hid (¬F=G):=fun e=>by
    have a:=HX.out.f
    have c:=HXm.out
    rw[e,c] at a
    cases a
   have hne:¬F=G:=HN.out
   have hne':¬G=F:=fun e=>HN.out e.symm
   clear HN
   go_wp2
   go_roundw
   case rel=>exact⟨2,by decide,rfl,by rw[HP.out,HH.out];exact(HX.out.set3 _).set4 _⟩
   case measure=>simp[intOf]
  ·obtain⟨⟨mi,mn,mp,mh⟩,hm⟩:∃ m,m=moM p 3:=⟨_,rfl⟩
   have HM:=iz b es p 3 (by decide) wr (HB.out.keep HS.out.g).lies
   rw[←hm] at HM
   unfold mv at HM
   have HP:Hid (dG f.po (zk p c0 c1 c2 c3 3)=wrap64 (pk+wrap64 (c2*mp))):=by
    have q:=HPk.out
    show dG f.po (zk p c0 c1 c2 c3 2++[(c2,moM p 3)])=_
    rw[eC,←hm,←q]
    rfl
   have HH:Hid (dL f.he (zk p c0 c1 c2 c3 3)=wrap64 (hk2+wrap64 (c2*mh))):=by
    have q:=HHk.out
    show dL f.he (zk p c0 c1 c2 c3 2++[(c2,moM p 3)])=_
    rw[ey,←hm,←q]
    rfl
   have HMo:Hid (moB p 3=moB p 3):=rfl
   obtain⟨mb,hmb⟩:=Qe (moB p 3)
   rw[←hmb] at HM
   clear hm hmb HPk HHk HMo
   go_upto_region 9 with (first | (go_at_call 223;refine HM.mono ?_;rintro e w2 ⟨rfl,g2⟩;have HG2:Hid (wr.grownBy w2 none):=g2;clear g2) | fail)
   obtain⟨X,hX⟩:=Qe (w2.alloc (.cells #[.int .u8 mi,.string mn,.int .i64 mp,.int .i64 mh] 115))
   have HX:Hid (MkS w X F R f.ho f.su f.tr pk hk2):=by rw[hX];exact(HS.out.grow HG2.out).grow QG
   have HXm:Hid (X.heap[w2.heap.size]?=some (.cells #[.int .u8 mi,.string mn,.int .i64 mp,.int .i64 mh] 115 (0,0))):=by rw[hX];exact ak _ _ _
   rw[←hX]
   clear hX HM
   obtain⟨G,hG⟩:=Qe (w2.heap.size)
   rw[←hG] at HXm ⊢
   clear hG
   have y3:=aa HX.out.f 3
   have y4:=aa HX.out.f 4
   have yf:=fun i=>au HX.out.f i
   have z2:=aa HXm.out 2
   have z3:=aa HXm.out 3
   have HN:Hid (¬F=G):=fun e=>by
    have a:=HX.out.f
    have c:=HXm.out
    rw[e,c] at a
    cases a
   have hne:¬F=G:=HN.out
   have hne':¬G=F:=fun e=>HN.out e.symm
   clear HN
   go_wp2
   go_roundw
   case rel=>exact⟨3,by decide,rfl,by rw[HP.out,HH.out];exact(HX.out.set3 _).set4 _⟩
   case measure=>simp[intOf]
  ·obtain⟨⟨mi,mn,mp,mh⟩,hm⟩:∃ m,m=moM p 4:=⟨_,rfl⟩
   have HM:=iz b es p 4 (by decide) wr (HB.out.keep HS.out.g).lies
   rw[←hm] at HM
   unfold mv at HM
   have HP:Hid (dG f.po (zk p c0 c1 c2 c3 4)=wrap64 (pk+wrap64 (c3*mp))):=by
    have q:=HPk.out
    show dG f.po (zk p c0 c1 c2 c3 3++[(c3,moM p 4)])=_
    rw[eC,←hm,←q]
    rfl
   have HH:Hid (dL f.he (zk p c0 c1 c2 c3 4)=wrap64 (hk2+wrap64 (c3*mh))):=by
    have q:=HHk.out
    show dL f.he (zk p c0 c1 c2 c3 3++[(c3,moM p 4)])=_
    rw[ey,←hm,←q]
    rfl
   have HMo:Hid (moB p 4=moB p 4):=rfl
   obtain⟨mb,hmb⟩:=Qe (moB p 4)
   rw[←hmb] at HM
   clear hm hmb HPk HHk HMo
   go_upto_region 9 with (first | (go_at_call 223;refine HM.mono ?_;rintro e w2 ⟨rfl,g2⟩;have HG2:Hid (wr.grownBy w2 none):=g2;clear g2) | fail)
   obtain⟨X,hX⟩:=Qe (w2.alloc (.cells #[.int .u8 mi,.string mn,.int .i64 mp,.int .i64 mh] 115))
   have HX:Hid (MkS w X F R f.ho f.su f.tr pk hk2):=by rw[hX];exact(HS.out.grow HG2.out).grow QG
   have HXm:Hid (X.heap[w2.heap.size]?=some (.cells #[.int .u8 mi,.string mn,.int .i64 mp,.int .i64 mh] 115 (0,0))):=by rw[hX];exact ak _ _ _
   rw[←hX]
   clear hX HM
   obtain⟨G,hG⟩:=Qe (w2.heap.size)
   rw[←hG] at HXm ⊢
   clear hG
   have y3:=aa HX.out.f 3
   have y4:=aa HX.out.f 4
   have yf:=fun i=>au HX.out.f i
   have z2:=aa HXm.out 2
   have z3:=aa HXm.out 3
   have HN:Hid (¬F=G):=fun e=>by
    have a:=HX.out.f
    have c:=HXm.out
    rw[e,c] at a
    cases a
   have hne:¬F=G:=HN.out
   have hne':¬G=F:=fun e=>HN.out e.symm
   clear HN
   go_wp2
   go_roundw
   case rel=>exact⟨4,by decide,rfl,by rw[HP.out,HH.out];exact(HX.out.set3 _).set4 _⟩
   case measure=>simp[intOf]
  ·have HE:Hid (lw p f c0 c1 c2 c3=⟨f.ho,f.su,f.tr,max pk 0,hk2⟩):=by
    show lw p f c0 c1 c2 c3=_
    unfold lw
    rw[Bm,HPk.out,HHk.out]
    rfl
   clear HPk HHk i0 i1 i2 i3
   have y0:=aa HS.out.f 0
   have y1:=aa HS.out.f 1
   have y2:=aa HS.out.f 2
   have y3:=aa HS.out.f 3
   have y4:=aa HS.out.f 4
   have yf:=fun i=>au HS.out.f i
   have r0:=aa HS.out.r 0
   have r1:=aa HS.out.r 1
   have r2:=aa HS.out.r 2
   have r3:=aa HS.out.r 3
   have r4:=aa HS.out.r 4
   have rf:=fun i=>au HS.out.r i
   have hne:¬F=R:=HS.out.ne
   have hne':¬R=F:=fun e=>HS.out.ne e.symm
   go_wp2
   refine bodyPost_ret (v:=.tuple #[fev ⟨f.ho,f.su,f.tr,max pk 0,hk2⟩,.int .i64 0]) (by simp[results,Tryz.results155,go_sem,fev,r0,r1,r2,r3,r4]) rfl ⟨by rw[HE.out];rfl,?_⟩
   exact ar (ar HS.out.g (aj _ _ _ _) (fun y e=>by cases e;exact HS.out.hF)) (((((aj _ _ _ _).trans (aj _ _ _ _)).trans (aj _ _ _ _)).trans (aj _ _ _ _)).trans (aj _ _ _ _)) (fun y e=>by cases e;exact HS.out.hR)
end Go.Proofs.YtjmepebbcnhalaaGreat
