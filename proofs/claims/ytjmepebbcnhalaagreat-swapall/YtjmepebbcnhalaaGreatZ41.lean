import Derived.Test.YtjmepebbcnhalaaGreatZSwG
import Derived.Maps.OwnSet
import Derived.Laws.EntriesVeiled
namespace Go.Proofs.YtjmepebbcnhalaaGreat
open Tryz
set_option maxRecDepth 100000
set_option maxHeartbeats 4000000
open Go.RowKit Go.MapKept Go.ChangeMaps
variable {w:World} {b g c:Nat}
def chF (k:Nat):Value:=.func (.func k) #[] #[]
theorem Ef:Maps.Keyed prog 56:=Maps.int_keyed underlying56
theorem wfV {v:Int} (h:0≤v∧v≤255):(Lit.int .u8 v).wf=true:=by
 have a:IntKind.min .u8=0:=by rfl
 have b:IntKind.max .u8=255:=by rfl
 simp only[Lit.wf,a,b,Bool.and_eq_true,decide_eq_true_eq];exact h
theorem GH (v:Int) (h:0≤v∧v≤255):keyOf prog 56 (.int .u8 v)=some (.int .u8 v):=Maps.keyOf_int_mk underlying56 (wfV h)
def kVs (es:List MapEntry):Prop:=∀ e∈es,∃ j:Int,e.key=.int .u8 j∧0≤j∧j≤255
theorem tU {es:List MapEntry} (h:kVs es):∀ e∈es,∃ l,keyOf prog 56 e.key=some l:=fun e he=>by
 obtain⟨j,e1,e2⟩:=h e he;exact⟨_,by rw[e1];exact GH j e2⟩
theorem mR {es:Array MapEntry} {clock:Nat} (hb:w.heap[b]?=some (.map es clock)) (hs:kVs es.toList) (k:Int) (hk:0≤k∧k≤255) (hn:∀ e∈es.toList,e.key≠.int .u8 k) (v:Value) :
  ∃ w',(Instr.mapUpdate 298 (.map (some b)) (.int .u8 k) v).run prog w=.ok () w'∧w'.heap[b]?=some (.map (es.push ⟨.int .u8 k,v,clock⟩) (clock+1))∧w.grownBy w' (some b):=by
 have hk':=GH k hk;have ht:prog.underlying 298=some (.map 56 297):=underlying298;refine⟨setBlock w b (.map (es.push ⟨.int .u8 k,v,clock⟩) (clock+1)),?_,heap_setBlock_same hb _,⟨rfl,rfl,rfl,by simp[setBlock],fun i _ hi=>heap_setBlock_other hb _ (fun e=>hi (by rw[e]))⟩⟩
 rcases Ef.find w hk' es.toList (tU hs) with ⟨h1,_⟩ | ⟨j,e0,_,h2,h3⟩
 ·simp[Instr.mapUpdate,run_underlying ht,MapKept.run_getObj_map hb,Ef.check w false hk',h1,MapKept.run_setObj_map _ hb,Result.andThen,setBlock]
 ·exact absurd h3 (hn e0 (Qm h2))
def chE:Array MapEntry:=#[⟨.int .u8 16,chF 268,0⟩,⟨.int .u8 17,chF 269,1⟩,⟨.int .u8 18,chF 270,2⟩,⟨.int .u8 19,chF 271,3⟩]
theorem kQ:chE.toList=[⟨.int .u8 16,chF 268,0⟩,⟨.int .u8 17,chF 269,1⟩,⟨.int .u8 18,chF 270,2⟩,⟨.int .u8 19,chF 271,3⟩]:=rfl
theorem BR:kVs chE.toList:=fun e he=>by
 simp only[chE,List.mem_cons,List.not_mem_nil,or_false] at he
 rcases he with rfl | rfl | rfl | rfl
 ·exact⟨16,rfl,by omega,by omega⟩
 ·exact⟨17,rfl,by omega,by omega⟩
 ·exact⟨18,rfl,by omega,by omega⟩
 ·exact⟨19,rfl,by omega,by omega⟩
theorem kO (w:World):Calls prog 233 #[] w fun e w'=>e=.returned (.map (some w.heap.size))∧w'.heap[w.heap.size]?=some (.map chE 4)∧w.grownBy w' none:=by
 have hmk:(Instr.makeMap 298 none).run prog w=.ok (.map (some w.heap.size)) (w.alloc (.map #[] 0)):=by simp[Instr.makeMap,go_sem]
 have h0:(w.alloc (.map #[] 0)).heap[w.heap.size]?=some (.map #[] 0):=by show (w.heap.push _)[w.heap.size]?=_;rw[Array.getElem?_push_size]
 have g0:w.grownBy (w.alloc (.map #[] 0)) none:=Qa0 _ _ _;obtain⟨U0,hU0⟩:=Qe (w.alloc (.map #[] 0));rw[←hU0] at hmk h0 g0;obtain⟨n,hn⟩:=Qe (w.heap.size);have Hn:QH (n=w.heap.size):=hn;rw[←hn] at hmk h0 ⊢;obtain⟨U1,r1,h1,g1⟩:=mR h0 (fun e he=>by simp at he) 16 (by omega) (fun e he=>by simp at he) (chF 268);obtain⟨U2,r2,h2,g2⟩:=mR h1 (fun e he=>by simp at he;subst he;exact⟨16,rfl,by omega,by omega⟩) 17 (by omega) (fun e he=>by simp at he;subst he;simp) (chF 269);obtain⟨U3,r3,h3,g3⟩:=mR h2 (fun e he=>by simp at he;rcases he with rfl | rfl;exact⟨16,rfl,by omega,by omega⟩;exact⟨17,rfl,by omega,by omega⟩) 18 (by omega) (fun e he=>by simp at he;rcases he with rfl | rfl <;> simp) (chF 270);obtain⟨U4,r4,h4,g4⟩:=mR h3 (fun e he=>by simp at he;rcases he with rfl | rfl | rfl;exact⟨16,rfl,by omega,by omega⟩;exact⟨17,rfl,by omega,by omega⟩;exact⟨18,rfl,by omega,by omega⟩) 19 (by omega) (fun e he=>by simp at he;rcases he with rfl | rfl | rfl <;> simp) (chF 271);have HF:QH (U4.heap[n]?=some (.map chE 4)∧w.grownBy U4 none):=⟨h4,ak g0 (aa (aa (aa g1 g2) g3) g4) (fun y e=>by cases e;rw[Hn.o];exact Qj _)⟩
 unfold chF at r1 r2 r3 r4;clear h0 h1 h2 h3 h4 g0 g1 g2 g3 g4 hU0 hn;go_enter func233,ntmps233;go_wp2;go_ret;exact⟨rfl,HF.o⟩
theorem Fy (hb:w.heap[b]?=some (.map chE 4)) {v:Int} {f:Nat} (hv:v=16∧f=268∨v=17∧f=269∨v=18∧f=270∨v=19∧f=271):(Instr.lookup 298 (.map (some b)) (.int .u8 v) false).run prog w=.ok (.func (.func f) #[] #[]) w:=by
 have ht:prog.underlying 298=some (.map 56 297):=underlying298;have hk':=GH v (by omega)
 rcases Ef.find w hk' chE.toList (tU BR) with ⟨h1,h2⟩ | ⟨j,e0,h1,h2,h3⟩
 ·exfalso
  rcases hv with ⟨rfl,-⟩ | ⟨rfl,-⟩ | ⟨rfl,-⟩ | ⟨rfl,-⟩
  ·exact h2 ⟨.int .u8 16,chF 268,0⟩ (by rw[kQ];exact Qaw) rfl
  ·exact h2 ⟨.int .u8 17,chF 269,1⟩ (by rw[kQ];exact(Qar _ Qaw)) rfl
  ·exact h2 ⟨.int .u8 18,chF 270,2⟩ (by rw[kQ];exact(Qar _ (Qar _ Qaw))) rfl
  ·exact h2 ⟨.int .u8 19,chF 271,3⟩ (by rw[kQ];exact(Qar _ (Qar _ (Qar _ Qaw)))) rfl
 ·have he:e0.val=.func (.func f) #[] #[]:=by
   have hm:=Qm h2;simp only[chE,List.mem_cons,List.not_mem_nil,or_false] at hm
   rcases hm with rfl | rfl | rfl | rfl <;> (have h4:=(Value.int.inj h3).2;rcases hv with ⟨q,rfl⟩ | ⟨q,rfl⟩ | ⟨q,rfl⟩ | ⟨q,rfl⟩ <;> first | (exfalso;omega) | rfl)
  simp[Instr.lookup,run_underlying ht,MapKept.run_getObj_map hb,Ef.check w _ hk',h1,he,Result.andThen]
end Go.Proofs.YtjmepebbcnhalaaGreat
namespace Go.Proofs.YtjmepebbcnhalaaGreat
open Tryz
set_option maxRecDepth 100000
set_option maxHeartbeats 4000000
open Go.RowKit
variable {w:World} {b g c:Nat}
theorem cD (h:HpB w g Hp.none):w.cell? ⟨g,0,none⟩=some (.int .u8 0)∧w.cell? ⟨g,1,none⟩=some (.int .i64 0)∧w.cell? ⟨g,2,none⟩=some (.int .i64 0)∧w.cell? ⟨g,3,none⟩=some (.int .i64 0)∧w.cell? ⟨g,4,none⟩=some (.bool false)∧w.cell? ⟨g,5,none⟩=some (.bool false):=aJ h
theorem bk {a b:World} (h:a.grownBy b none) (hc:a.heap.size≤c) (v0 v1 v2 v3 v4 v5:Value):a.grownBy ((((((b.setCell ⟨c,0,none⟩ v0).setCell ⟨c,1,none⟩ v1).setCell ⟨c,2,none⟩ v2).setCell ⟨c,3,none⟩ v3).setCell ⟨c,4,none⟩ v4).setCell ⟨c,5,none⟩ v5) none:=ak h ((((((al _ _ _ _).trans (al _ _ _ _)).trans (al _ _ _ _)).trans (al _ _ _ _)).trans (al _ _ _ _)).trans (al _ _ _ _)) (fun y e=>by cases e;exact hc)
theorem fb {b:World} {x:Hp} (h:Hp) (H:HpB b c x):HpB ((((((b.setCell ⟨c,0,none⟩ (.int .u8 h.vb)).setCell ⟨c,1,none⟩ (.int .i64 h.on)).setCell ⟨c,2,none⟩ (.int .i64 h.ct)).setCell ⟨c,3,none⟩ (.int .i64 h.ho)).setCell ⟨c,4,none⟩ (.bool h.vn)).setCell ⟨c,5,none⟩ (.bool h.dr)) c h:=au (au (au (au (au (au H 0 _) 1 _) 2 _) 3 _) 4 _) 5 _
theorem jR (h:Hp) (w:World):Calls prog 96 #[hpv h] w fun e w'=>e=.returned (.bool (cw h))∧w.grownBy w' none:=by
 obtain⟨V,hV⟩:=Qe (w.alloc (.cells #[.int .u8 h.vb,.int .i64 h.on,.int .i64 h.ct,.int .i64 h.ho,.bool h.vn,.bool h.dr] 87));have HG:QH (w.grownBy V none):=by rw[hV];exact QG
 have HH:QH (HpB V w.heap.size h):=by rw[hV];exact aj _ _ _
 unfold hpv;go_enter func96,ntmps96;go_upto_region 1 with fail;rw[←hV];clear hV;obtain⟨x0,x1,x2,x3,x4,x5⟩:=aJ HH.o;by_cases v1:h.vb=1
 ·have HR:QH (cw h=decide (h.ct<1)):=by show _=_;unfold cw;rw[Qy v1,Qah]
  rw[v1] at x0;clear v1;go_wp2;go_ret;exact⟨aI HR.o.symm,HG.o⟩
 ·have k1:(h.vb == 1)=false:=by simpa using v1
  have HR:QH (cw h=false):=by show _=_;unfold cw;rw[Qx v1,Qai]
  clear v1;go_wp2;go_ret;exact⟨aI HR.o.symm,HG.o⟩
theorem CV (h:Hp) (c ho:Int) (w:World):Calls prog 268 #[hpv h,.int .i64 c,.int .i64 ho] w fun e w'=>e=.returned (hpv { h with ct:=wrap64 (h.ct - c) })∧w.grownBy w' none:=by
 obtain⟨V,hV⟩:=Qe ((w.alloc (.cells #[.int .u8 h.vb,.int .i64 h.on,.int .i64 h.ct,.int .i64 h.ho,.bool h.vn,.bool h.dr] 87)).alloc (.cells #[.int .u8 0,.int .i64 0,.int .i64 0,.int .i64 0,.bool false,.bool false] 87));have HG:QH (w.grownBy V none):=by rw[hV];exact am QG _
 have HH:QH (HpB V w.heap.size h):=by rw[hV];exact ag QG (aj w _ _) (by simp)
 have HZ:QH (HpB V (w.heap.size+1) Hp.none):=by rw[hV];exact aT _ _ _ _
 unfold hpv;go_enter func268,ntmps268;go_upto_region 1 with fail;rw[←hV];clear hV;obtain⟨n0,hn0⟩:=Qe (w.heap.size);have Hn:QH (w.heap.size≤n0):=by rw[hn0];exact Qj _
 simp only[←hn0] at HH HZ ⊢;obtain⟨n1,hn1⟩:=Qe (n0+1);have Hn1:QH (w.heap.size≤n1∧n0≠n1):=⟨by have:=Hn.o;omega,by omega⟩
 simp only[←hn1] at HZ ⊢;clear hn0 hn1;obtain⟨x0,x1,x2,x3,x4,x5⟩:=aJ HH.o;have xf:=fun i=>aq HH.o i;obtain⟨U,hU⟩:=Qe (V.setCell ⟨n0,2,none⟩ (.int .i64 (wrap64 (h.ct - c))));have HU:QH (HpB U n0 { h with ct:=wrap64 (h.ct - c) }∧HpB U n1 Hp.none∧w.grownBy U none):=⟨by rw[hU];exact au HH.o 2 _,by rw[hU];exact ag (al _ n0 _ _) HZ.o (fun q=>Hn1.o.2 (Qa1 q).symm),by rw[hU];exact ak HG.o (al _ n0 _ _) (fun y e=>by cases e;exact Hn.o)⟩
 go_upto_region 2 with fail;rw[←hU];clear hU x0 x1 x2 x3 x4 x5 xf;obtain⟨y0,y1,y2,y3,y4,y5⟩:=aJ HU.o.1;obtain⟨z0,z1,z2,z3,z4,z5⟩:=cD HU.o.2.1;have zf:=fun i=>aq HU.o.2.1 i;go_wp2_with fail;refine bodyPost_ret (v:=hpv { h with ct:=wrap64 (h.ct - c) }) (by simp[results,results268,go_sem,hpv,z0,z1,z2,z3,z4,z5]) rfl ⟨rfl,?_⟩;exact bk HU.o.2.2 Hn1.o.1 _ _ _ _ _ _
theorem Cr (h:Hp) (c ho:Int) (w:World):Calls prog 269 #[hpv h,.int .i64 c,.int .i64 ho] w fun e w'=>e=.returned (hpv { h with ct:=min (wrap64 (2*h.ct)) 9999 })∧w.grownBy w' none:=by
 obtain⟨m,hm⟩:∃ m,min (wrap64 (2*h.ct)) 9999=m:=⟨_,rfl⟩
 rw[hm];obtain⟨V,hV⟩:=Qe ((w.alloc (.cells #[.int .u8 h.vb,.int .i64 h.on,.int .i64 h.ct,.int .i64 h.ho,.bool h.vn,.bool h.dr] 87)).alloc (.cells #[.int .u8 0,.int .i64 0,.int .i64 0,.int .i64 0,.bool false,.bool false] 87));have HG:QH (w.grownBy V none):=by rw[hV];exact am QG _
 have HH:QH (HpB V w.heap.size h):=by rw[hV];exact ag QG (aj w _ _) (by simp)
 have HZ:QH (HpB V (w.heap.size+1) Hp.none):=by rw[hV];exact aT _ _ _ _
 unfold hpv;go_enter func269,ntmps269;go_upto_region 1 with fail;rw[←hV];clear hV;obtain⟨n0,hn0⟩:=Qe (w.heap.size);have Hn:QH (w.heap.size≤n0):=by rw[hn0];exact Qj _
 simp only[←hn0] at HH HZ ⊢;obtain⟨n1,hn1⟩:=Qe (n0+1);have Hn1:QH (w.heap.size≤n1∧n0≠n1):=⟨by have:=Hn.o;omega,by omega⟩
 simp only[←hn1] at HZ ⊢;clear hn0 hn1;obtain⟨x0,x1,x2,x3,x4,x5⟩:=aJ HH.o;have xf:=fun i=>aq HH.o i;obtain⟨U,hU⟩:=Qe (V.setCell ⟨n0,2,none⟩ (.int .i64 m));have HU:QH (HpB U n0 { h with ct:=m }∧HpB U n1 Hp.none∧w.grownBy U none):=⟨by rw[hU];exact au HH.o 2 _,by rw[hU];exact ag (al _ n0 _ _) HZ.o (fun q=>Hn1.o.2 (Qa1 q).symm),by rw[hU];exact ak HG.o (al _ n0 _ _) (fun y e=>by cases e;exact Hn.o)⟩
 go_upto_region 2 with fail;rw[←hU];clear hU x0 x1 x2 x3 x4 x5 xf;obtain⟨y0,y1,y2,y3,y4,y5⟩:=aJ HU.o.1;obtain⟨z0,z1,z2,z3,z4,z5⟩:=cD HU.o.2.1;have zf:=fun i=>aq HU.o.2.1 i;go_wp2_with fail;refine bodyPost_ret (v:=hpv { h with ct:=m }) (by simp[results,results269,go_sem,hpv,z0,z1,z2,z3,z4,z5]) rfl ⟨rfl,?_⟩;exact bk HU.o.2.2 Hn1.o.1 _ _ _ _ _ _
theorem BQ (h:Hp) (c ho:Int) (w:World):Calls prog 270 #[hpv h,.int .i64 c,.int .i64 ho] w fun e w'=>e=.returned (hpv { h with on:=wrap64 (-1 - wrap64 (1 - ho)) })∧w.grownBy w' none:=by
 obtain⟨V,hV⟩:=Qe ((w.alloc (.cells #[.int .u8 h.vb,.int .i64 h.on,.int .i64 h.ct,.int .i64 h.ho,.bool h.vn,.bool h.dr] 87)).alloc (.cells #[.int .u8 0,.int .i64 0,.int .i64 0,.int .i64 0,.bool false,.bool false] 87));have HG:QH (w.grownBy V none):=by rw[hV];exact am QG _
 have HH:QH (HpB V w.heap.size h):=by rw[hV];exact ag QG (aj w _ _) (by simp)
 have HZ:QH (HpB V (w.heap.size+1) Hp.none):=by rw[hV];exact aT _ _ _ _
 unfold hpv;go_enter func270,ntmps270;go_upto_region 1 with fail;rw[←hV];clear hV;obtain⟨n0,hn0⟩:=Qe (w.heap.size);have Hn:QH (w.heap.size≤n0):=by rw[hn0];exact Qj _
 simp only[←hn0] at HH HZ ⊢;obtain⟨n1,hn1⟩:=Qe (n0+1);have Hn1:QH (w.heap.size≤n1∧n0≠n1):=⟨by have:=Hn.o;omega,by omega⟩
 simp only[←hn1] at HZ ⊢;clear hn0 hn1;obtain⟨x0,x1,x2,x3,x4,x5⟩:=aJ HH.o;have xf:=fun i=>aq HH.o i;obtain⟨U,hU⟩:=Qe (V.setCell ⟨n0,1,none⟩ (.int .i64 (wrap64 (-1 - wrap64 (1 - ho)))));have HU:QH (HpB U n0 { h with on:=wrap64 (-1 - wrap64 (1 - ho)) }∧HpB U n1 Hp.none∧w.grownBy U none):=⟨by rw[hU];exact au HH.o 1 _,by rw[hU];exact ag (al _ n0 _ _) HZ.o (fun q=>Hn1.o.2 (Qa1 q).symm),by rw[hU];exact ak HG.o (al _ n0 _ _) (fun y e=>by cases e;exact Hn.o)⟩
 go_upto_region 2 with (first | (go_at_call 230;refine(fV _ _).mono ?_;rintro e2 w2 ⟨rfl,q2⟩;obtain rfl:V=w2:=q2.symm) | (go_at_call 235;refine(td _ _).mono ?_;rintro e2 w2 ⟨rfl,q2⟩;obtain rfl:V=w2:=q2.symm))
 rw[←hU];clear hU x0 x1 x2 x3 x4 x5 xf;obtain⟨y0,y1,y2,y3,y4,y5⟩:=aJ HU.o.1;obtain⟨z0,z1,z2,z3,z4,z5⟩:=cD HU.o.2.1;have zf:=fun i=>aq HU.o.2.1 i;go_wp2_with fail;refine bodyPost_ret (v:=hpv { h with on:=wrap64 (-1 - wrap64 (1 - ho)) }) (by simp[results,results270,go_sem,hpv,z0,z1,z2,z3,z4,z5]) rfl ⟨rfl,?_⟩;exact bk HU.o.2.2 Hn1.o.1 _ _ _ _ _ _
theorem BP (h:Hp) (c ho:Int) (w:World):Calls prog 271 #[hpv h,.int .i64 c,.int .i64 ho] w fun e w'=>e=.returned (hpv Hp.none)∧w.grownBy w' none:=by
 obtain⟨V,hV⟩:=Qe ((w.alloc (.cells #[.int .u8 h.vb,.int .i64 h.on,.int .i64 h.ct,.int .i64 h.ho,.bool h.vn,.bool h.dr] 87)).alloc (.cells #[.int .u8 0,.int .i64 0,.int .i64 0,.int .i64 0,.bool false,.bool false] 87));have HG:QH (w.grownBy V none):=by rw[hV];exact am QG _
 have HH:QH (HpB V w.heap.size h):=by rw[hV];exact ag QG (aj w _ _) (by simp)
 have HZ:QH (HpB V (w.heap.size+1) Hp.none):=by rw[hV];exact aT _ _ _ _
 unfold hpv;go_enter func271,ntmps271;go_upto_region 1 with fail;rw[←hV];clear hV;obtain⟨n0,hn0⟩:=Qe (w.heap.size);have Hn:QH (w.heap.size≤n0):=by rw[hn0];exact Qj _
 simp only[←hn0] at HH HZ ⊢;obtain⟨n1,hn1⟩:=Qe (n0+1);have Hn1:QH (w.heap.size≤n1∧n0≠n1):=⟨by have:=Hn.o;omega,by omega⟩
 simp only[←hn1] at HZ ⊢;clear hn0 hn1;obtain⟨x0,x1,x2,x3,x4,x5⟩:=aJ HH.o;clear x0 x1 x2 x3 x4 x5;obtain⟨z0,z1,z2,z3,z4,z5⟩:=cD HZ.o;have zf:=fun i=>aq HZ.o i;go_wp2_with fail;refine bodyPost_ret (v:=hpv Hp.none) (by simp[results,results271,go_sem,hpv,Hp.none,z0,z1,z2,z3,z4,z5]) rfl ⟨rfl,?_⟩;exact bk HG.o Hn1.o.1 _ _ _ _ _ _
def fm (s:Sd) (ho:Int) (h:Hp):Hp :=
 if s.wh.vb=16 then { h with ct:=wrap64 (h.ct - s.wh.ct) }
 else if s.wh.vb=17 then { h with ct:=min (wrap64 (2*h.ct)) 9999 }
 else if s.wh.vb=18 then { h with on:=wrap64 (-1 - wrap64 (1 - ho)) }
 else Hp.none
def chN (v:Int):Nat:=if v=16 then 268 else if v=17 then 269 else if v=18 then 270 else 271
theorem wG {v:Int} (h:16≤v∧v≤19):v=16∧chN v=268∨v=17∧chN v=269∨v=18∧chN v=270∨v=19∧chN v=271:=by
 have:v=16∨v=17∨v=18∨v=19:=by omega
 rcases this with rfl | rfl | rfl | rfl
 ·exact Or.inl ⟨rfl,rfl⟩
 ·exact Or.inr (Or.inl ⟨rfl,rfl⟩)
 ·exact Or.inr (Or.inr (Or.inl ⟨rfl,rfl⟩))
 ·exact Or.inr (Or.inr (Or.inr ⟨rfl,rfl⟩))
theorem Fr (s:Sd) (ho:Int) (h:Hp) (w:World) (hv:16≤s.wh.vb∧s.wh.vb≤19):Calls prog (chN s.wh.vb) #[hpv h,.int .i64 s.wh.ct,.int .i64 ho] w fun e w'=>e=.returned (hpv (fm s ho h))∧w.grownBy w' none:=by
 have h1:=CV h s.wh.ct ho w;have h2:=Cr h s.wh.ct ho w;have h3:=BQ h s.wh.ct ho w;have h4:=BP h s.wh.ct ho w
 rcases wG hv with ⟨e,q⟩ | ⟨e,q⟩ | ⟨e,q⟩ | ⟨e,q⟩
 ·rw[q,show fm s ho h={ h with ct:=wrap64 (h.ct - s.wh.ct) } from by unfold fm;rw[if_pos e]];exact h1
 ·rw[q,show fm s ho h={ h with ct:=min (wrap64 (2*h.ct)) 9999 } from by unfold fm;rw[if_neg (by omega),if_pos e]];exact h2
 ·rw[q,show fm s ho h={ h with on:=wrap64 (-1 - wrap64 (1 - ho)) } from by unfold fm;rw[if_neg (by omega),if_neg (by omega),if_pos e]];exact h3
 ·rw[q,show fm s ho h=Hp.none from by unfold fm;rw[if_neg (by omega),if_neg (by omega),if_neg (by omega)]];exact h4
theorem aU (b:World) (c:Nat) (v0 v1 v2 v3 v4 v5:Value):b.grownBy ((((((b.setCell ⟨c,0,none⟩ v0).setCell ⟨c,1,none⟩ v1).setCell ⟨c,2,none⟩ v2).setCell ⟨c,3,none⟩ v3).setCell ⟨c,4,none⟩ v4).setCell ⟨c,5,none⟩ v5) (some c):=((((((al _ _ _ _).trans (al _ _ _ _)).trans (al _ _ _ _)).trans (al _ _ _ _)).trans (al _ _ _ _)).trans (al _ _ _ _))
theorem ju {P:Program} {md:Region.Mode} {ops:Array Oper} {Q:Exit→Act→World→Prop} {S S':World→Prop} (hS:∀ w,S' w→S w):∀ (fuel:Nat) (listed:Array Bool) (a:Act) (w:World),wpAnyH P md ops Q S' fuel listed a w→wpAnyH P md ops Q S fuel listed a w
 | 0,_,_,_,h=>h
 | fuel+1,_,_,_,h=>⟨h.1,fun i hi=>wpOp_mono (fun a' w' h'=>⟨hS _ h'.1,ju hS fuel _ a' w' h'.2⟩) (h.2 i hi)⟩
def fX (s:Sd) (ho:Int) (h:Hp):Hp:=if cw (fm s ho h) then Hp.none else fm s ho h
theorem tB (bv vt vf vl:Value) (n:Int) (cd:Int→Hd×List Pt) (ts:List Th) (F:List Fe) (s:Sd) (z:Nat) (g:Fe) (h:Hp) (w:World) (I:AIn w bv vt vf n cd ts F s z g) (hv:16≤s.wh.vb∧s.wh.vb≤19):Calls prog 166 #[dn bv vt vf vl,hpv h,sdv s] w fun e w'=>e=.returned (hpv (fX s g.ho h))∧w.grownBy w' none:=by
 obtain⟨pt,ct,rfl⟩:=I.at1.form;obtain⟨pf,cf,rfl⟩:=I.at2.form;obtain⟨V,hV⟩:=Qe ((((w.alloc (.cells #[bv,.slice pt ts.length ct,.slice pf F.length cf,vl] 175)).alloc (.cells #[.int .u8 h.vb,.int .i64 h.on,.int .i64 h.ct,.int .i64 h.ho,.bool h.vn,.bool h.dr] 87)).alloc (.cells #[.int .i64 s.th,.int .i64 s.pl,.int .u8 s.wh.wn,.int .u8 s.wh.vb,.int .u8 s.wh.wm,.int .i64 s.wh.ct,.int .u8 s.wh.su,.int .u8 s.wh.tr,.int .u8 s.wh.mr,.string s.wh.nm] 64)).alloc (.cells #[.int .u8 0,.int .i64 0,.int .i64 0,.int .i64 0,.bool false,.bool false] 87));have HG:QH (w.grownBy V none):=by rw[hV];exact am (am (am QG _) _) _
 have HC:QH (dg V w.heap.size bv (.slice pt ts.length ct) (.slice pf F.length cf) vl):=by rw[hV];exact ag (am (am QG _) _) (aj w _ _) (by simp)
 have HH:QH (HpB V (w.heap.size+1) h):=by rw[hV];exact ag (am QG _) (aT w _ _ _) (by simp)
 have HS:QH (SdB V (w.heap.size+1+1) s):=by rw[hV];refine ag QG ?_ (by simp);have:=aj ((w.alloc (.cells #[bv,.slice pt ts.length ct,.slice pf F.length cf,vl] 175)).alloc (.cells #[.int .u8 h.vb,.int .i64 h.on,.int .i64 h.ct,.int .i64 h.ho,.bool h.vn,.bool h.dr] 87)) #[.int .i64 s.th,.int .i64 s.pl,.int .u8 s.wh.wn,.int .u8 s.wh.vb,.int .u8 s.wh.wm,.int .i64 s.wh.ct,.int .u8 s.wh.su,.int .u8 s.wh.tr,.int .u8 s.wh.mr,.string s.wh.nm] 64;rw[Qa3,Qa3] at this;exact this
 have HZ:QH (HpB V (w.heap.size+1+1+1) Hp.none):=by rw[hV];have:=aj (((w.alloc (.cells #[bv,.slice pt ts.length ct,.slice pf F.length cf,vl] 175)).alloc (.cells #[.int .u8 h.vb,.int .i64 h.on,.int .i64 h.ct,.int .i64 h.ho,.bool h.vn,.bool h.dr] 87)).alloc (.cells #[.int .i64 s.th,.int .i64 s.pl,.int .u8 s.wh.wn,.int .u8 s.wh.vb,.int .u8 s.wh.wm,.int .i64 s.wh.ct,.int .u8 s.wh.su,.int .u8 s.wh.tr,.int .u8 s.wh.mr,.string s.wh.nm] 64)) #[.int .u8 0,.int .i64 0,.int .i64 0,.int .i64 0,.bool false,.bool false] 87;rw[Qa3,Qa3,Qa3] at this;exact this
 have HI:QH (AIn V bv (.slice pt ts.length ct) (.slice pf F.length cf) n cd ts F s z g):=I.keep HG.o;have CHo:∀ X,V.grownBy X none→Calls prog 234 #[dn bv (.slice pt ts.length ct) (.slice pf F.length cf) vl,sdv s] X fun e w'=>e=.returned (.int .i64 g.ho)∧X.grownBy w' none:=fun X q=>lU bv _ _ vl F s z g X (HI.o.at2.keep q) HI.o.hg HI.o.hz (by rw[←HI.o.len];exact Ql HI.o.few (by decide));have CCh:=fun W=>Fr s g.ho h W hv;have hlk:=fun (W:World) (b:Nat) (hb:W.heap[b]?=some (.map chE 4))=>Fy hb (wG hv);obtain⟨fN,hfN⟩:=Qe (chN s.wh.vb)
 have hent:∀ args W,(callFunc fN args).run prog W=.ok (.enter fN args) W:=by
  have e1:=enters_of func268 (by kernel_rfl) rfl;have e2:=enters_of func269 (by kernel_rfl) rfl;have e3:=enters_of func270 (by kernel_rfl) rfl;have e4:=enters_of func271 (by kernel_rfl) rfl;rw[hfN]
  rcases wG hv with ⟨_,q⟩ | ⟨_,q⟩ | ⟨_,q⟩ | ⟨_,q⟩ <;> rw[q]
  ·exact e1
  ·exact e2
  ·exact e3
  ·exact e4
 rw[←hfN] at CCh;simp only[←hfN] at hlk;obtain⟨ho,hho⟩:=Qe (g.ho);rw[←hho] at CCh ⊢;simp only[←hho] at CHo;obtain⟨c,hc⟩:=Qe (fm s ho h);have Hc:QH (c=fm s ho h):=hc;rw[←hc] at CCh;have CN:=fun W=>jR c W;unfold hpv at CCh CN;unfold dn sdv at CHo;unfold dn sdv hpv;clear I hv hfN hho hc;go_enter func166,ntmps166;go_upto_region 1 with fail;rw[←hV];clear hV;obtain⟨n0,hn0⟩:=Qe (w.heap.size);have Hn:QH (w.heap.size≤n0):=by rw[hn0];exact Qj _
 simp only[←hn0] at HC HH HS HZ ⊢;obtain⟨n1,hn1⟩:=Qe (n0+1);simp only[←hn1] at HH HS HZ ⊢;obtain⟨n2,hn2⟩:=Qe (n1+1);simp only[←hn2] at HS HZ ⊢;obtain⟨n3,hn3⟩:=Qe (n2+1);have Hn3:QH (w.heap.size≤n3):=by have:=Hn.o;show _≤_;omega
 simp only[←hn3] at HZ ⊢;clear hn0 hn1 hn2 hn3;obtain⟨c0,c1,c2,c3⟩:=bg HC.o;obtain⟨s0,s1,s2,s3,s4,s5,s6,s7,s8,s9⟩:=aQ HS.o;obtain⟨x0,x1,x2,x3,x4,x5⟩:=aJ HH.o;refine wp_region_held_drew (S:=fun w'=>V.grownBy w' none) (by kernel_rfl) (ai _) (fun hHeld=>?_);refine QZ 1 rfl ?_;go_frame;refine QZ 2 rfl ?_;go_frame;refine QT 3 rfl (by intro w0 hSw;have s3:=QK hSw s3;go_simp;try with_reducible rfl) ?_;go_frame;refine QT 5 rfl (by intro w0 hSw;have x0:=QK hSw x0;have x1:=QK hSw x1;have x2:=QK hSw x2;have x3:=QK hSw x3;have x4:=QK hSw x4;have x5:=QK hSw x5;go_simp;try with_reducible rfl) ?_;go_frame;refine QZ 6 rfl ?_;go_frame;refine QZ 7 rfl ?_;go_frame;refine QT 8 rfl (by intro w0 hSw;have s5:=QK hSw s5;go_simp;try with_reducible rfl) ?_;go_frame;refine QT 9 rfl (by intro w0 hSw;have c0:=QK hSw c0;have c1:=QK hSw c1;have c2:=QK hSw c2;have c3:=QK hSw c3;go_simp;try with_reducible rfl) ?_;go_frame;refine QT 10 rfl (by intro w0 hSw;have s0:=QK hSw s0;have s1:=QK hSw s1;have s2:=QK hSw s2;have s3:=QK hSw s3;have s4:=QK hSw s4;have s5:=QK hSw s5;have s6:=QK hSw s6;have s7:=QK hSw s7;have s8:=QK hSw s8;have s9:=QK hSw s9;go_simp;try with_reducible rfl) ?_;go_frame;refine wpAnyH_ready (rs:=[0,13]) (by kernel_rfl) (by simp) ?_;refine AllReadyH.cons rfl (fun K9 hK=>?_) (AllReadyH.cons rfl (fun K9 hK=>?_) AllReadyH.nil)
 ·simp only[QA,QB];go_simp;go_at_call 233;refine(kO _).mono ?_;rintro e4 wm ⟨rfl,hm4,g4⟩;have HGm:QH (V.grownBy wm none):=aa (ai _) g4;refine hK.out _ _ HGm.o (fun hHeld2=>?_);clear hK K9;(try go_frame);obtain⟨mb,hmb⟩:=Qe ((V).heap.size);have hm5:wm.heap[(V).heap.size]?=some (.map chE 4):=hm4;rw[←hmb] at hm5
  (first | rw[←hmb] | rw[show (V).drew.heap.size=mb from hmb.symm])
  have HM:QH (wm.heap[mb]?=some (.map chE 4)):=hm5;clear hmb hm4 hm5;refine ju (S':=fun w'=>V.grownBy w' none∧w'.heap[mb]?=some (.map chE 4)) (fun _ h=>h.1) _ _ _ _ ?_;have hHeldM:V.grownBy wm none∧wm.heap[mb]?=some (.map chE 4):=⟨HGm.o,HM.o⟩
  refine QT 4 rfl (by intro w0 hSw;have hlm:=hlk w0 mb hSw.2;go_simp;try with_reducible rfl) ?_;go_frame;refine wpAnyH_ready (rs:=[11,13]) (by kernel_rfl) (by simp) ?_;refine AllReadyH.cons rfl (fun K9 hK=>?_) (AllReadyH.cons rfl (fun K9 hK=>?_) AllReadyH.nil)
  ·simp only[QA,QB,QC];go_simp;go_at_call 234;refine(CHo _ (HGm.o)).mono ?_;rintro e5 w5 ⟨rfl,g5⟩;have HG5:QH (V.grownBy w5 none):=aa (HGm.o) g5;have HM5:QH (w5.heap[mb]?=some (.map chE 4)):=ag g5 (HM.o) (by simp);refine hK.out _ _ ⟨HG5.o,HM5.o⟩ (fun hHeld2=>?_);clear hK K9;(try go_frame);refine wpAnyH_ready (rs:=[12,13]) (by kernel_rfl) (by simp) ?_;refine AllReadyH.cons rfl (fun K9 hK=>?_) (AllReadyH.cons rfl (fun K9 hK=>?_) AllReadyH.nil)
   ·simp only[QA,QB,QC];go_simp;go_at_fn fN;refine(CCh _).mono ?_;rintro e7 w7 ⟨rfl,g7⟩;have HG7:QH (V.grownBy w7 none):=aa (HG5.o) g7;have HM7:QH (w7.heap[mb]?=some (.map chE 4)):=ag g7 (HM5.o) (by simp);refine hK.out _ _ ⟨HG7.o,HM7.o⟩ (fun hHeld2=>?_);clear hK K9;(try go_frame);refine QR 13 rfl (fun K9 hK=>?_);go_simp;refine hK.out _ _ (⟨am (HG7.o) _,ag QG (HM7.o) (by simp)⟩) (fun hHeld3=>?_);clear hK K9;(try go_frame);obtain⟨X,hX⟩:=Qe (w7.alloc (.cells #[.int .u8 0,.int .i64 0,.int .i64 0,.int .i64 0,.bool false,.bool false] 87));rw[←hX];have HB0:QH (HpB X w7.heap.size Hp.none):=(by rw[hX];exact aj w7 _ _);have HGX:QH (V.grownBy X none):=(by rw[hX];exact am (HG7.o) _);have HMX:QH (X.heap[mb]?=some (.map chE 4)):=(by rw[hX];exact ag QG (HM7.o) (by simp));obtain⟨n4,h4⟩:=Qe (w7.heap.size);have Hn4:QH (V.heap.size≤n4):=(by rw[h4];exact(HG7.o).size);rw[←h4] at HB0 ⊢;clear hX h4;have HBX:QH (HpB X n4 Hp.none):=HB0.o;obtain⟨q0,q1,q2,q3,q4,q5⟩:=cD HBX.o;have qf:=fun i=>aq HBX.o i;refine QR 14 rfl (fun K9 hK=>?_);go_simp;refine hK.out _ _ ⟨bk (HGX.o) Hn4.o _ _ _ _ _ _,?_⟩ (fun hHeld3=>?_)
    ·exact ag (aU _ _ _ _ _ _ _ _) (HMX.o) (fun q=>by have:=Qa1 q;subst this;have h9:=HBX.o;unfold HpB at h9;rw[HMX.o] at h9;simp at h9)
    clear hK K9;(try go_frame);refine QD ?_;obtain⟨Y,hY⟩:=Qe ((((((X.setCell ⟨n4,0,none⟩ (.int .u8 c.vb)).setCell ⟨n4,1,none⟩ (.int .i64 c.on)).setCell ⟨n4,2,none⟩ (.int .i64 c.ct)).setCell ⟨n4,3,none⟩ (.int .i64 c.ho)).setCell ⟨n4,4,none⟩ (.bool c.vn)).setCell ⟨n4,5,none⟩ (.bool c.dr));rw[←hY];have HY:QH (HpB Y n4 c∧V.grownBy Y none):=⟨by rw[hY];exact fb c HBX.o,by rw[hY];exact bk (HGX.o) Hn4.o _ _ _ _ _ _⟩
    clear hY hHeld q0 q1 q2 q3 q4 q5 qf HBX;obtain⟨y0,y1,y2,y3,y4,y5⟩:=aJ HY.o.1;go_wp2_with fail;refine(CN _).mono ?_;rintro e6 w6 ⟨rfl,g6⟩;have HY6:QH (HpB w6 n4 c∧HpB w6 n3 Hp.none∧w.grownBy w6 none):=⟨ag g6 HY.o.1 (by simp),ag (aa HY.o.2 g6) HZ.o (by simp),aa HG.o (aa HY.o.2 g6)⟩
    clear g6 y0 y1 y2 y3 y4 y5;obtain⟨y0,y1,y2,y3,y4,y5⟩:=aJ HY6.o.1;obtain⟨z0,z1,z2,z3,z4,z5⟩:=cD HY6.o.2.1;have zf:=fun i=>aq HY6.o.2.1 i;cases hq:cw c with
    | true =>
     have HR:QH (fX s ho h=Hp.none):=(by show _=_;unfold fX;rw[←Hc.o,hq];rfl);go_wp2_with fail;refine bodyPost_ret (v:=hpv Hp.none) (by simp[results,results166,go_sem,hpv,Hp.none,z0,z1,z2,z3,z4,z5]) rfl ⟨by rw[HR.o];rfl,?_⟩;exact bk HY6.o.2.2 Hn3.o _ _ _ _ _ _
    | false =>
     have HR:QH (fX s ho h=c):=(by show _=_;unfold fX;rw[←Hc.o,hq];rfl);go_wp2_with fail;refine bodyPost_ret (v:=hpv c) (by simp[results,results166,go_sem,hpv,z0,z1,z2,z3,z4,z5]) rfl ⟨by rw[HR.o];rfl,?_⟩;exact bk HY6.o.2.2 Hn3.o _ _ _ _ _ _
   ·simp only[QA,QB,QC];go_simp;refine hK.out _ _ (⟨am (HG5.o) _,ag QG (HM5.o) (by simp)⟩) (fun hHeld3=>?_);clear hK K9;(try go_frame);obtain⟨X,hX⟩:=Qe (w5.alloc (.cells #[.int .u8 0,.int .i64 0,.int .i64 0,.int .i64 0,.bool false,.bool false] 87));rw[←hX];have HB0:QH (HpB X w5.heap.size Hp.none):=(by rw[hX];exact aj w5 _ _);have HGX:QH (V.grownBy X none):=(by rw[hX];exact am (HG5.o) _);have HMX:QH (X.heap[mb]?=some (.map chE 4)):=(by rw[hX];exact ag QG (HM5.o) (by simp));obtain⟨n4,h4⟩:=Qe (w5.heap.size);have Hn4:QH (V.heap.size≤n4):=(by rw[h4];exact(HG5.o).size);rw[←h4] at HB0 ⊢;clear hX h4;refine QR 12 rfl (fun K9 hK=>?_);go_simp;go_at_fn fN;refine(CCh _).mono ?_;rintro e7 w7 ⟨rfl,g7⟩;have HG7:QH (V.grownBy w7 none):=aa (HGX.o) g7;have HM7:QH (w7.heap[mb]?=some (.map chE 4)):=ag g7 (HMX.o) (by simp);have HBX1:QH (HpB w7 n4 Hp.none):=ag g7 HB0.o (by simp);refine hK.out _ _ ⟨HG7.o,HM7.o⟩ (fun hHeld2=>?_);clear hK K9;(try go_frame);have HBX:QH (HpB w7 n4 Hp.none):=HBX1.o;obtain⟨q0,q1,q2,q3,q4,q5⟩:=cD HBX.o;have qf:=fun i=>aq HBX.o i;refine QR 14 rfl (fun K9 hK=>?_);go_simp;refine hK.out _ _ ⟨bk (HG7.o) Hn4.o _ _ _ _ _ _,?_⟩ (fun hHeld3=>?_)
    ·exact ag (aU _ _ _ _ _ _ _ _) (HM7.o) (fun q=>by have:=Qa1 q;subst this;have h9:=HBX.o;unfold HpB at h9;rw[HM7.o] at h9;simp at h9)
    clear hK K9;(try go_frame);refine QD ?_;obtain⟨Y,hY⟩:=Qe ((((((w7.setCell ⟨n4,0,none⟩ (.int .u8 c.vb)).setCell ⟨n4,1,none⟩ (.int .i64 c.on)).setCell ⟨n4,2,none⟩ (.int .i64 c.ct)).setCell ⟨n4,3,none⟩ (.int .i64 c.ho)).setCell ⟨n4,4,none⟩ (.bool c.vn)).setCell ⟨n4,5,none⟩ (.bool c.dr));rw[←hY];have HY:QH (HpB Y n4 c∧V.grownBy Y none):=⟨by rw[hY];exact fb c HBX.o,by rw[hY];exact bk (HG7.o) Hn4.o _ _ _ _ _ _⟩
    clear hY hHeld q0 q1 q2 q3 q4 q5 qf HBX;obtain⟨y0,y1,y2,y3,y4,y5⟩:=aJ HY.o.1;go_wp2_with fail;refine(CN _).mono ?_;rintro e6 w6 ⟨rfl,g6⟩;have HY6:QH (HpB w6 n4 c∧HpB w6 n3 Hp.none∧w.grownBy w6 none):=⟨ag g6 HY.o.1 (by simp),ag (aa HY.o.2 g6) HZ.o (by simp),aa HG.o (aa HY.o.2 g6)⟩
    clear g6 y0 y1 y2 y3 y4 y5;obtain⟨y0,y1,y2,y3,y4,y5⟩:=aJ HY6.o.1;obtain⟨z0,z1,z2,z3,z4,z5⟩:=cD HY6.o.2.1;have zf:=fun i=>aq HY6.o.2.1 i;cases hq:cw c with
    | true =>
     have HR:QH (fX s ho h=Hp.none):=(by show _=_;unfold fX;rw[←Hc.o,hq];rfl);go_wp2_with fail;refine bodyPost_ret (v:=hpv Hp.none) (by simp[results,results166,go_sem,hpv,Hp.none,z0,z1,z2,z3,z4,z5]) rfl ⟨by rw[HR.o];rfl,?_⟩;exact bk HY6.o.2.2 Hn3.o _ _ _ _ _ _
    | false =>
     have HR:QH (fX s ho h=c):=(by show _=_;unfold fX;rw[←Hc.o,hq];rfl);go_wp2_with fail;refine bodyPost_ret (v:=hpv c) (by simp[results,results166,go_sem,hpv,z0,z1,z2,z3,z4,z5]) rfl ⟨by rw[HR.o];rfl,?_⟩;exact bk HY6.o.2.2 Hn3.o _ _ _ _ _ _
  ·simp only[QA,QB,QC];go_simp;refine hK.out _ _ (⟨am (HGm.o) _,ag QG (HM.o) (by simp)⟩) (fun hHeld3=>?_);clear hK K9;(try go_frame);obtain⟨X,hX⟩:=Qe (wm.alloc (.cells #[.int .u8 0,.int .i64 0,.int .i64 0,.int .i64 0,.bool false,.bool false] 87));rw[←hX];have HB0:QH (HpB X wm.heap.size Hp.none):=(by rw[hX];exact aj wm _ _);have HGX:QH (V.grownBy X none):=(by rw[hX];exact am (HGm.o) _);have HMX:QH (X.heap[mb]?=some (.map chE 4)):=(by rw[hX];exact ag QG (HM.o) (by simp));obtain⟨n4,h4⟩:=Qe (wm.heap.size);have Hn4:QH (V.heap.size≤n4):=(by rw[h4];exact(HGm.o).size);rw[←h4] at HB0 ⊢;clear hX h4;refine QR 11 rfl (fun K9 hK=>?_);go_simp;go_at_call 234;refine(CHo _ (HGX.o)).mono ?_;rintro e5 w5 ⟨rfl,g5⟩;have HG5:QH (V.grownBy w5 none):=aa (HGX.o) g5;have HM5:QH (w5.heap[mb]?=some (.map chE 4)):=ag g5 (HMX.o) (by simp);have HBX0:QH (HpB w5 n4 Hp.none):=ag g5 HB0.o (by simp);refine hK.out _ _ ⟨HG5.o,HM5.o⟩ (fun hHeld2=>?_);clear hK K9;(try go_frame);refine QR 12 rfl (fun K9 hK=>?_);go_simp;go_at_fn fN;refine(CCh _).mono ?_;rintro e7 w7 ⟨rfl,g7⟩;have HG7:QH (V.grownBy w7 none):=aa (HG5.o) g7;have HM7:QH (w7.heap[mb]?=some (.map chE 4)):=ag g7 (HM5.o) (by simp);have HBX1:QH (HpB w7 n4 Hp.none):=ag g7 HBX0.o (by simp);refine hK.out _ _ ⟨HG7.o,HM7.o⟩ (fun hHeld2=>?_);clear hK K9;(try go_frame);have HBX:QH (HpB w7 n4 Hp.none):=HBX1.o;obtain⟨q0,q1,q2,q3,q4,q5⟩:=cD HBX.o;have qf:=fun i=>aq HBX.o i;refine QR 14 rfl (fun K9 hK=>?_);go_simp;refine hK.out _ _ ⟨bk (HG7.o) Hn4.o _ _ _ _ _ _,?_⟩ (fun hHeld3=>?_)
   ·exact ag (aU _ _ _ _ _ _ _ _) (HM7.o) (fun q=>by have:=Qa1 q;subst this;have h9:=HBX.o;unfold HpB at h9;rw[HM7.o] at h9;simp at h9)
   clear hK K9;(try go_frame);refine QD ?_;obtain⟨Y,hY⟩:=Qe ((((((w7.setCell ⟨n4,0,none⟩ (.int .u8 c.vb)).setCell ⟨n4,1,none⟩ (.int .i64 c.on)).setCell ⟨n4,2,none⟩ (.int .i64 c.ct)).setCell ⟨n4,3,none⟩ (.int .i64 c.ho)).setCell ⟨n4,4,none⟩ (.bool c.vn)).setCell ⟨n4,5,none⟩ (.bool c.dr));rw[←hY];have HY:QH (HpB Y n4 c∧V.grownBy Y none):=⟨by rw[hY];exact fb c HBX.o,by rw[hY];exact bk (HG7.o) Hn4.o _ _ _ _ _ _⟩
   clear hY hHeld q0 q1 q2 q3 q4 q5 qf HBX;obtain⟨y0,y1,y2,y3,y4,y5⟩:=aJ HY.o.1;go_wp2_with fail;refine(CN _).mono ?_;rintro e6 w6 ⟨rfl,g6⟩;have HY6:QH (HpB w6 n4 c∧HpB w6 n3 Hp.none∧w.grownBy w6 none):=⟨ag g6 HY.o.1 (by simp),ag (aa HY.o.2 g6) HZ.o (by simp),aa HG.o (aa HY.o.2 g6)⟩
   clear g6 y0 y1 y2 y3 y4 y5;obtain⟨y0,y1,y2,y3,y4,y5⟩:=aJ HY6.o.1;obtain⟨z0,z1,z2,z3,z4,z5⟩:=cD HY6.o.2.1;have zf:=fun i=>aq HY6.o.2.1 i;cases hq:cw c with
   | true =>
    have HR:QH (fX s ho h=Hp.none):=(by show _=_;unfold fX;rw[←Hc.o,hq];rfl);go_wp2_with fail;refine bodyPost_ret (v:=hpv Hp.none) (by simp[results,results166,go_sem,hpv,Hp.none,z0,z1,z2,z3,z4,z5]) rfl ⟨by rw[HR.o];rfl,?_⟩;exact bk HY6.o.2.2 Hn3.o _ _ _ _ _ _
   | false =>
    have HR:QH (fX s ho h=c):=(by show _=_;unfold fX;rw[←Hc.o,hq];rfl);go_wp2_with fail;refine bodyPost_ret (v:=hpv c) (by simp[results,results166,go_sem,hpv,z0,z1,z2,z3,z4,z5]) rfl ⟨by rw[HR.o];rfl,?_⟩;exact bk HY6.o.2.2 Hn3.o _ _ _ _ _ _
 ·simp only[QA,QB,QC];go_simp;refine hK.out _ _ (aa (am (aw _ _) _) (ai _)) (fun hHeld3=>?_);clear hK K9;(try go_frame);obtain⟨X,hX⟩:=Qe ((V.alloc (.cells #[.int .u8 0,.int .i64 0,.int .i64 0,.int .i64 0,.bool false,.bool false] 87)).drew);rw[←hX];have HB0:QH (HpB X V.heap.size Hp.none):=by rw[hX];exact aj V _ _
  have HGX:QH (V.grownBy X none):=by rw[hX];exact aa (am (aw _ _) _) (ai _)
  obtain⟨n4,h4⟩:=Qe (V.heap.size);have Hn4:QH (V.heap.size≤n4):=by rw[h4];exact Qj _
  rw[←h4] at HB0 ⊢;clear hX h4;refine QR 0 rfl (fun K9 hK=>?_);go_simp;go_at_call 233;refine(kO _).mono ?_;rintro e4 wm ⟨rfl,hm4,g4⟩;have HGm:QH (V.grownBy wm none):=aa (HGX.o) g4;refine hK.out _ _ HGm.o (fun hHeld2=>?_);clear hK K9;(try go_frame);obtain⟨mb,hmb⟩:=Qe ((X).heap.size);have hm5:wm.heap[(X).heap.size]?=some (.map chE 4):=hm4;rw[←hmb] at hm5
  (first | rw[←hmb] | rw[show (X).drew.heap.size=mb from hmb.symm])
  have HM:QH (wm.heap[mb]?=some (.map chE 4)):=hm5;clear hmb hm4 hm5;have HBm:QH (HpB wm n4 Hp.none):=ag g4 HB0.o (by simp);refine ju (S':=fun w'=>V.grownBy w' none∧w'.heap[mb]?=some (.map chE 4)) (fun _ h=>h.1) _ _ _ _ ?_;have hHeldM:V.grownBy wm none∧wm.heap[mb]?=some (.map chE 4):=⟨HGm.o,HM.o⟩
  refine QT 4 rfl (by intro w0 hSw;have hlm:=hlk w0 mb hSw.2;go_simp;try with_reducible rfl) ?_;go_frame;refine QR 11 rfl (fun K9 hK=>?_);go_simp;go_at_call 234;refine(CHo _ (HGm.o)).mono ?_;rintro e5 w5 ⟨rfl,g5⟩;have HG5:QH (V.grownBy w5 none):=aa (HGm.o) g5;have HM5:QH (w5.heap[mb]?=some (.map chE 4)):=ag g5 (HM.o) (by simp);have HBX0:QH (HpB w5 n4 Hp.none):=ag g5 HBm.o (by simp);refine hK.out _ _ ⟨HG5.o,HM5.o⟩ (fun hHeld2=>?_);clear hK K9;(try go_frame);refine QR 12 rfl (fun K9 hK=>?_);go_simp;go_at_fn fN;refine(CCh _).mono ?_;rintro e7 w7 ⟨rfl,g7⟩;have HG7:QH (V.grownBy w7 none):=aa (HG5.o) g7;have HM7:QH (w7.heap[mb]?=some (.map chE 4)):=ag g7 (HM5.o) (by simp);have HBX1:QH (HpB w7 n4 Hp.none):=ag g7 HBX0.o (by simp);refine hK.out _ _ ⟨HG7.o,HM7.o⟩ (fun hHeld2=>?_);clear hK K9;(try go_frame);have HBX:QH (HpB w7 n4 Hp.none):=HBX1.o;obtain⟨q0,q1,q2,q3,q4,q5⟩:=cD HBX.o;have qf:=fun i=>aq HBX.o i;refine QR 14 rfl (fun K9 hK=>?_);go_simp;refine hK.out _ _ ⟨bk (HG7.o) Hn4.o _ _ _ _ _ _,?_⟩ (fun hHeld3=>?_)
  ·exact ag (aU _ _ _ _ _ _ _ _) (HM7.o) (fun q=>by have:=Qa1 q;subst this;have h9:=HBX.o;unfold HpB at h9;rw[HM7.o] at h9;simp at h9)
  clear hK K9;(try go_frame);refine QD ?_;obtain⟨Y,hY⟩:=Qe ((((((w7.setCell ⟨n4,0,none⟩ (.int .u8 c.vb)).setCell ⟨n4,1,none⟩ (.int .i64 c.on)).setCell ⟨n4,2,none⟩ (.int .i64 c.ct)).setCell ⟨n4,3,none⟩ (.int .i64 c.ho)).setCell ⟨n4,4,none⟩ (.bool c.vn)).setCell ⟨n4,5,none⟩ (.bool c.dr));rw[←hY];have HY:QH (HpB Y n4 c∧V.grownBy Y none):=⟨by rw[hY];exact fb c HBX.o,by rw[hY];exact bk (HG7.o) Hn4.o _ _ _ _ _ _⟩
  clear hY hHeld q0 q1 q2 q3 q4 q5 qf HBX;obtain⟨y0,y1,y2,y3,y4,y5⟩:=aJ HY.o.1;go_wp2_with fail;refine(CN _).mono ?_;rintro e6 w6 ⟨rfl,g6⟩;have HY6:QH (HpB w6 n4 c∧HpB w6 n3 Hp.none∧w.grownBy w6 none):=⟨ag g6 HY.o.1 (by simp),ag (aa HY.o.2 g6) HZ.o (by simp),aa HG.o (aa HY.o.2 g6)⟩
  clear g6 y0 y1 y2 y3 y4 y5;obtain⟨y0,y1,y2,y3,y4,y5⟩:=aJ HY6.o.1;obtain⟨z0,z1,z2,z3,z4,z5⟩:=cD HY6.o.2.1;have zf:=fun i=>aq HY6.o.2.1 i;cases hq:cw c with
  | true =>
   have HR:QH (fX s ho h=Hp.none):=(by show _=_;unfold fX;rw[←Hc.o,hq];rfl);go_wp2_with fail;refine bodyPost_ret (v:=hpv Hp.none) (by simp[results,results166,go_sem,hpv,Hp.none,z0,z1,z2,z3,z4,z5]) rfl ⟨by rw[HR.o];rfl,?_⟩;exact bk HY6.o.2.2 Hn3.o _ _ _ _ _ _
  | false =>
   have HR:QH (fX s ho h=c):=(by show _=_;unfold fX;rw[←Hc.o,hq];rfl);go_wp2_with fail;refine bodyPost_ret (v:=hpv c) (by simp[results,results166,go_sem,hpv,z0,z1,z2,z3,z4,z5]) rfl ⟨by rw[HR.o];rfl,?_⟩;exact bk HY6.o.2.2 Hn3.o _ _ _ _ _ _
