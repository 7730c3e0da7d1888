import Derived.Test.YthfjgpjcepmnmaaGreatSwG
import Derived.Maps.OwnSet
namespace Go.Proofs.YthfjgpjcepmnmaaGreat
set_option maxRecDepth 100000
set_option maxHeartbeats 4000000
open Go.RowKit Go.MapKept Go.ChangeMaps
def chF (k:Nat):Value:=.func (.func k) #[] #[]
theorem Dz:Maps.Keyed Tryz.prog 32:=Maps.int_keyed Tryz.underlying32
theorem wfV {v:Int} (h:0≤v∧v≤255):(Lit.int .u8 v).wf=true:=by
 have a:IntKind.min .u8=0:=by rfl
 have b:IntKind.max .u8=255:=by rfl
 simp only[Lit.wf,a,b,Bool.and_eq_true,decide_eq_true_eq]
 exact h
theorem Et (v:Int) (h:0≤v∧v≤255):keyOf Tryz.prog 32 (.int .u8 v)=some (.int .u8 v):=Maps.keyOf_int_mk Tryz.underlying32 (wfV h)
def kVs (es:List MapEntry):Prop:=∀ e∈es,∃ j:Int,e.key=.int .u8 j∧0≤j∧j≤255
theorem rZ {es:List MapEntry} (h:kVs es):∀ e∈es,∃ l,keyOf Tryz.prog 32 e.key=some l:=fun e he=>by
 obtain⟨j,e1,e2⟩:=h e he
 exact⟨_,by rw[e1];exact Et j e2⟩
theorem lf {w:World} {b:Nat} {es:Array MapEntry} {clock:Nat} (hb:w.heap[b]?=some (.map es clock)) (hs:kVs es.toList) (k:Int) (hk:0≤k∧k≤255) (hn:∀ e∈es.toList,e.key≠.int .u8 k) (v:Value) :
  ∃ w',(Instr.mapUpdate 279 (.map (some b)) (.int .u8 k) v).run Tryz.prog w=.ok () w'∧w'.heap[b]?=some (.map (es.push ⟨.int .u8 k,v,clock⟩) (clock+1))∧w.grownBy w' (some b):=by
 have hk':=Et k hk
 have ht:Tryz.prog.underlying 279=some (.map 32 278):=Tryz.underlying279
 refine⟨setBlock w b (.map (es.push ⟨.int .u8 k,v,clock⟩) (clock+1)),?_,heap_setBlock_same hb _,⟨rfl,rfl,rfl,by simp[setBlock],fun i _ hi=>heap_setBlock_other hb _ (fun e=>hi (by rw[e]))⟩⟩
 rcases Dz.find w hk' es.toList (rZ hs) with ⟨h1,_⟩ | ⟨j,e0,_,h2,h3⟩
 ·simp[Instr.mapUpdate,run_underlying ht,MapKept.run_getObj_map hb,Dz.check w false hk',h1,MapKept.run_setObj_map _ hb,Result.andThen,setBlock]
 ·exact absurd h3 (hn e0 (List.mem_of_getElem? h2))
def chE:Array MapEntry:=#[⟨.int .u8 16,chF 268,0⟩,⟨.int .u8 17,chF 269,1⟩,⟨.int .u8 18,chF 270,2⟩,⟨.int .u8 19,chF 271,3⟩]
theorem jF:chE.toList=[⟨.int .u8 16,chF 268,0⟩,⟨.int .u8 17,chF 269,1⟩,⟨.int .u8 18,chF 270,2⟩,⟨.int .u8 19,chF 271,3⟩]:=rfl
theorem zz:kVs chE.toList:=fun e he=>by
 simp only[chE,List.mem_cons,List.not_mem_nil,or_false] at he
 rcases he with rfl | rfl | rfl | rfl
 ·exact⟨16,rfl,by omega,by omega⟩
 ·exact⟨17,rfl,by omega,by omega⟩
 ·exact⟨18,rfl,by omega,by omega⟩
 ·exact⟨19,rfl,by omega,by omega⟩
theorem jx (w:World):Calls Tryz.prog 211 #[] w fun e w'=>e=.returned (.map (some w.heap.size))∧w'.heap[w.heap.size]?=some (.map chE 4)∧w.grownBy w' none:=by
 have hmk:(Instr.makeMap 279 none).run Tryz.prog w=.ok (.map (some w.heap.size)) (w.alloc (.map #[] 0)):=by simp[Instr.makeMap,go_sem]
 have h0:(w.alloc (.map #[] 0)).heap[w.heap.size]?=some (.map #[] 0):=by show (w.heap.push _)[w.heap.size]?=_;rw[Array.getElem?_push_size]
 have g0:w.grownBy (w.alloc (.map #[] 0)) none:=World.grownBy_alloc _ _ _
 obtain⟨U0,hU0⟩:∃ U0,U0=w.alloc (.map #[] 0):=⟨_,rfl⟩
 rw[←hU0] at hmk h0 g0
 obtain⟨n,hn⟩:∃ n,n=w.heap.size:=⟨_,rfl⟩
 have Hn:Hid (n=w.heap.size):=hn
 rw[←hn] at hmk h0 ⊢
 obtain⟨U1,r1,h1,g1⟩:=lf h0 (fun e he=>by simp at he) 16 (by omega) (fun e he=>by simp at he) (chF 268)
 obtain⟨U2,r2,h2,g2⟩:=lf h1 (fun e he=>by simp at he;subst he;exact⟨16,rfl,by omega,by omega⟩) 17 (by omega) (fun e he=>by simp at he;subst he;simp) (chF 269)
 obtain⟨U3,r3,h3,g3⟩:=lf h2 (fun e he=>by simp at he;rcases he with rfl | rfl;exact⟨16,rfl,by omega,by omega⟩;exact⟨17,rfl,by omega,by omega⟩) 18 (by omega) (fun e he=>by simp at he;rcases he with rfl | rfl <;> simp) (chF 270)
 obtain⟨U4,r4,h4,g4⟩:=lf h3 (fun e he=>by simp at he;rcases he with rfl | rfl | rfl;exact⟨16,rfl,by omega,by omega⟩;exact⟨17,rfl,by omega,by omega⟩;exact⟨18,rfl,by omega,by omega⟩) 19 (by omega) (fun e he=>by simp at he;rcases he with rfl | rfl | rfl <;> simp) (chF 271)
 have HF:Hid (U4.heap[n]?=some (.map chE 4)∧w.grownBy U4 none):=⟨h4,am g0 (aa (aa (aa g1 g2) g3) g4) (fun y e=>by cases e;rw[Hn.out];exact Nat.le_refl _)⟩
 unfold chF at r1 r2 r3 r4
 clear h0 h1 h2 h3 h4 g0 g1 g2 g3 g4 hU0 hn
 go_enter Tryz.func211,Tryz.ntmps211
 go_wp2
 go_ret
 exact⟨rfl,HF.out⟩
theorem D0 {w:World} {b:Nat} (hb:w.heap[b]?=some (.map chE 4)) {v:Int} {f:Nat} (hv:v=16∧f=268∨v=17∧f=269∨v=18∧f=270∨v=19∧f=271):(Instr.lookup 279 (.map (some b)) (.int .u8 v) false).run Tryz.prog w=.ok (.func (.func f) #[] #[]) w:=by
 have ht:Tryz.prog.underlying 279=some (.map 32 278):=Tryz.underlying279
 have hk':=Et v (by omega)
 rcases Dz.find w hk' chE.toList (rZ zz) with ⟨h1,h2⟩ | ⟨j,e0,h1,h2,h3⟩
 ·exfalso
  rcases hv with ⟨rfl,-⟩ | ⟨rfl,-⟩ | ⟨rfl,-⟩ | ⟨rfl,-⟩
  ·exact h2 ⟨.int .u8 16,chF 268,0⟩ (by rw[jF];exact List.mem_cons_self) rfl
  ·exact h2 ⟨.int .u8 17,chF 269,1⟩ (by rw[jF];exact(List.mem_cons_of_mem _ List.mem_cons_self)) rfl
  ·exact h2 ⟨.int .u8 18,chF 270,2⟩ (by rw[jF];exact(List.mem_cons_of_mem _ (List.mem_cons_of_mem _ List.mem_cons_self))) rfl
  ·exact h2 ⟨.int .u8 19,chF 271,3⟩ (by rw[jF];exact(List.mem_cons_of_mem _ (List.mem_cons_of_mem _ (List.mem_cons_of_mem _ List.mem_cons_self)))) rfl
 ·have he:e0.val=.func (.func f) #[] #[]:=by
   have hm:=List.mem_of_getElem? h2
   simp only[chE,List.mem_cons,List.not_mem_nil,or_false] at hm
   rcases hm with rfl | rfl | rfl | rfl <;> (have h4:=(Value.int.inj h3).2;rcases hv with ⟨q,rfl⟩ | ⟨q,rfl⟩ | ⟨q,rfl⟩ | ⟨q,rfl⟩ <;> first | (exfalso;omega) | rfl)
  simp[Instr.lookup,run_underlying ht,MapKept.run_getObj_map hb,Dz.check w _ hk',h1,he,Result.andThen]
end Go.Proofs.YthfjgpjcepmnmaaGreat
namespace Go.Proofs.YthfjgpjcepmnmaaGreat
set_option maxRecDepth 100000
set_option maxHeartbeats 4000000
open Go.RowKit
theorem di {w:World} {g:Nat} (h:HpB w g Hp.none):w.cell? ⟨g,0,none⟩=some (.int .u8 0)∧w.cell? ⟨g,1,none⟩=some (.int .i64 0)∧w.cell? ⟨g,2,none⟩=some (.int .i64 0)∧w.cell? ⟨g,3,none⟩=some (.int .i64 0)∧w.cell? ⟨g,4,none⟩=some (.bool false)∧w.cell? ⟨g,5,none⟩=some (.bool false):=aL h
theorem aV {a b:World} {c:Nat} (h:a.grownBy b none) (hc:a.heap.size≤c) (v0 v1 v2 v3 v4 v5:Value):a.grownBy ((((((b.setCell ⟨c,0,none⟩ v0).setCell ⟨c,1,none⟩ v1).setCell ⟨c,2,none⟩ v2).setCell ⟨c,3,none⟩ v3).setCell ⟨c,4,none⟩ v4).setCell ⟨c,5,none⟩ v5) none:=am h ((((((aj _ _ _ _).trans (aj _ _ _ _)).trans (aj _ _ _ _)).trans (aj _ _ _ _)).trans (aj _ _ _ _)).trans (aj _ _ _ _)) (fun y e=>by cases e;exact hc)
theorem dZ {b:World} {c:Nat} {x:Hp} (h:Hp) (H:HpB b c x):HpB ((((((b.setCell ⟨c,0,none⟩ (.int .u8 h.vb)).setCell ⟨c,1,none⟩ (.int .i64 h.on)).setCell ⟨c,2,none⟩ (.int .i64 h.ct)).setCell ⟨c,3,none⟩ (.int .i64 h.ho)).setCell ⟨c,4,none⟩ (.bool h.vn)).setCell ⟨c,5,none⟩ (.bool h.dr)) c h:=ar (ar (ar (ar (ar (ar H 0 _) 1 _) 2 _) 3 _) 4 _) 5 _
theorem jg (h:Hp) (w:World):Calls Tryz.prog 64 #[hpv h] w fun e w'=>e=.returned (.bool (cG h))∧w.grownBy w' none:=by
 obtain⟨V,hV⟩:∃ V,V=w.alloc (.cells #[.int .u8 h.vb,.int .i64 h.on,.int .i64 h.ct,.int .i64 h.ho,.bool h.vn,.bool h.dr] 43):=⟨_,rfl⟩
 have HG:Hid (w.grownBy V none):=by rw[hV];exact World.grownBy_alloc _ _ none
 have HH:Hid (HpB V w.heap.size h):=by rw[hV];exact ai _ _ _
 unfold hpv
 go_enter Tryz.func64,Tryz.ntmps64
 go_upto_region 1 with fail
 rw[←hV]
 clear hV
 obtain⟨x0,x1,x2,x3,x4,x5⟩:=aL HH.out
 by_cases v1:h.vb=1
 ·have HR:Hid (cG h=decide (h.ct<1)):=by show _=_;unfold cG;rw[decide_eq_true v1,Bool.true_and]
  rw[v1] at x0
  clear v1
  go_wp2
  go_ret
  exact⟨aJ HR.out.symm,HG.out⟩
 ·have k1:(h.vb == 1)=false:=by simpa using v1
  have HR:Hid (cG h=false):=by show _=_;unfold cG;rw[decide_eq_false v1,Bool.false_and]
  clear v1
  go_wp2
  go_ret
  exact⟨aJ HR.out.symm,HG.out⟩
theorem Bx (h:Hp) (c ho:Int) (w:World):Calls Tryz.prog 268 #[hpv h,.int .i64 c,.int .i64 ho] w fun e w'=>e=.returned (hpv { h with ct:=wrap64 (h.ct - c) })∧w.grownBy w' none:=by
 obtain⟨V,hV⟩:∃ V,V=(w.alloc (.cells #[.int .u8 h.vb,.int .i64 h.on,.int .i64 h.ct,.int .i64 h.ho,.bool h.vn,.bool h.dr] 43)).alloc (.cells #[.int .u8 0,.int .i64 0,.int .i64 0,.int .i64 0,.bool false,.bool false] 43):=⟨_,rfl⟩
 have HG:Hid (w.grownBy V none):=by rw[hV];exact ak (World.grownBy_alloc _ _ none) _
 have HH:Hid (HpB V w.heap.size h):=by rw[hV];exact ae (World.grownBy_alloc _ _ none) (ai w _ _) (by simp)
 have HZ:Hid (HpB V (w.heap.size+1) Hp.none):=by rw[hV];exact aP _ _ _ _
 unfold hpv
 go_enter Tryz.func268,Tryz.ntmps268
 go_upto_region 1 with fail
 rw[←hV]
 clear hV
 obtain⟨n0,hn0⟩:∃ n0,n0=w.heap.size:=⟨_,rfl⟩
 have Hn:Hid (w.heap.size≤n0):=by rw[hn0];exact Nat.le_refl _
 simp only[←hn0] at HH HZ ⊢
 obtain⟨n1,hn1⟩:∃ n1,n1=n0+1:=⟨_,rfl⟩
 have Hn1:Hid (w.heap.size≤n1∧n0≠n1):=⟨by have:=Hn.out;omega,by omega⟩
 simp only[←hn1] at HZ ⊢
 clear hn0 hn1
 obtain⟨x0,x1,x2,x3,x4,x5⟩:=aL HH.out
 have xf:=fun i=>ao HH.out i
 obtain⟨U,hU⟩:∃ U,U=V.setCell ⟨n0,2,none⟩ (.int .i64 (wrap64 (h.ct - c))):=⟨_,rfl⟩
 have HU:Hid (HpB U n0 { h with ct:=wrap64 (h.ct - c) }∧HpB U n1 Hp.none∧w.grownBy U none):=⟨by rw[hU];exact ar HH.out 2 _,by rw[hU];exact ae (aj _ n0 _ _) HZ.out (fun q=>Hn1.out.2 (Option.some.inj q).symm),by rw[hU];exact am HG.out (aj _ n0 _ _) (fun y e=>by cases e;exact Hn.out)⟩
 go_upto_region 2 with fail
 rw[←hU]
 clear hU x0 x1 x2 x3 x4 x5 xf
 obtain⟨y0,y1,y2,y3,y4,y5⟩:=aL HU.out.1
 obtain⟨z0,z1,z2,z3,z4,z5⟩:=di HU.out.2.1
 have zf:=fun i=>ao HU.out.2.1 i
 go_wp2_with fail
 refine bodyPost_ret (v:=hpv { h with ct:=wrap64 (h.ct - c) }) (by simp[results,Tryz.results268,go_sem,hpv,z0,z1,z2,z3,z4,z5]) rfl ⟨rfl,?_⟩
 exact aV HU.out.2.2 Hn1.out.1 _ _ _ _ _ _
theorem zL (h:Hp) (c ho:Int) (w:World):Calls Tryz.prog 269 #[hpv h,.int .i64 c,.int .i64 ho] w fun e w'=>e=.returned (hpv { h with ct:=min (wrap64 (2*h.ct)) 9999 })∧w.grownBy w' none:=by
 obtain⟨m,hm⟩:∃ m,min (wrap64 (2*h.ct)) 9999=m:=⟨_,rfl⟩
 rw[hm]
 obtain⟨V,hV⟩:∃ V,V=(w.alloc (.cells #[.int .u8 h.vb,.int .i64 h.on,.int .i64 h.ct,.int .i64 h.ho,.bool h.vn,.bool h.dr] 43)).alloc (.cells #[.int .u8 0,.int .i64 0,.int .i64 0,.int .i64 0,.bool false,.bool false] 43):=⟨_,rfl⟩
 have HG:Hid (w.grownBy V none):=by rw[hV];exact ak (World.grownBy_alloc _ _ none) _
 have HH:Hid (HpB V w.heap.size h):=by rw[hV];exact ae (World.grownBy_alloc _ _ none) (ai w _ _) (by simp)
 have HZ:Hid (HpB V (w.heap.size+1) Hp.none):=by rw[hV];exact aP _ _ _ _
 unfold hpv
 go_enter Tryz.func269,Tryz.ntmps269
 go_upto_region 1 with fail
 rw[←hV]
 clear hV
 obtain⟨n0,hn0⟩:∃ n0,n0=w.heap.size:=⟨_,rfl⟩
 have Hn:Hid (w.heap.size≤n0):=by rw[hn0];exact Nat.le_refl _
 simp only[←hn0] at HH HZ ⊢
 obtain⟨n1,hn1⟩:∃ n1,n1=n0+1:=⟨_,rfl⟩
 have Hn1:Hid (w.heap.size≤n1∧n0≠n1):=⟨by have:=Hn.out;omega,by omega⟩
 simp only[←hn1] at HZ ⊢
 clear hn0 hn1
 obtain⟨x0,x1,x2,x3,x4,x5⟩:=aL HH.out
 have xf:=fun i=>ao HH.out i
 obtain⟨U,hU⟩:∃ U,U=V.setCell ⟨n0,2,none⟩ (.int .i64 m):=⟨_,rfl⟩
 have HU:Hid (HpB U n0 { h with ct:=m }∧HpB U n1 Hp.none∧w.grownBy U none):=⟨by rw[hU];exact ar HH.out 2 _,by rw[hU];exact ae (aj _ n0 _ _) HZ.out (fun q=>Hn1.out.2 (Option.some.inj q).symm),by rw[hU];exact am HG.out (aj _ n0 _ _) (fun y e=>by cases e;exact Hn.out)⟩
 go_upto_region 2 with fail
 rw[←hU]
 clear hU x0 x1 x2 x3 x4 x5 xf
 obtain⟨y0,y1,y2,y3,y4,y5⟩:=aL HU.out.1
 obtain⟨z0,z1,z2,z3,z4,z5⟩:=di HU.out.2.1
 have zf:=fun i=>ao HU.out.2.1 i
 go_wp2_with fail
 refine bodyPost_ret (v:=hpv { h with ct:=m }) (by simp[results,Tryz.results269,go_sem,hpv,z0,z1,z2,z3,z4,z5]) rfl ⟨rfl,?_⟩
 exact aV HU.out.2.2 Hn1.out.1 _ _ _ _ _ _
theorem Ar (h:Hp) (c ho:Int) (w:World):Calls Tryz.prog 270 #[hpv h,.int .i64 c,.int .i64 ho] w fun e w'=>e=.returned (hpv { h with on:=wrap64 (-1 - wrap64 (1 - ho)) })∧w.grownBy w' none:=by
 obtain⟨V,hV⟩:∃ V,V=(w.alloc (.cells #[.int .u8 h.vb,.int .i64 h.on,.int .i64 h.ct,.int .i64 h.ho,.bool h.vn,.bool h.dr] 43)).alloc (.cells #[.int .u8 0,.int .i64 0,.int .i64 0,.int .i64 0,.bool false,.bool false] 43):=⟨_,rfl⟩
 have HG:Hid (w.grownBy V none):=by rw[hV];exact ak (World.grownBy_alloc _ _ none) _
 have HH:Hid (HpB V w.heap.size h):=by rw[hV];exact ae (World.grownBy_alloc _ _ none) (ai w _ _) (by simp)
 have HZ:Hid (HpB V (w.heap.size+1) Hp.none):=by rw[hV];exact aP _ _ _ _
 unfold hpv
 go_enter Tryz.func270,Tryz.ntmps270
 go_upto_region 1 with fail
 rw[←hV]
 clear hV
 obtain⟨n0,hn0⟩:∃ n0,n0=w.heap.size:=⟨_,rfl⟩
 have Hn:Hid (w.heap.size≤n0):=by rw[hn0];exact Nat.le_refl _
 simp only[←hn0] at HH HZ ⊢
 obtain⟨n1,hn1⟩:∃ n1,n1=n0+1:=⟨_,rfl⟩
 have Hn1:Hid (w.heap.size≤n1∧n0≠n1):=⟨by have:=Hn.out;omega,by omega⟩
 simp only[←hn1] at HZ ⊢
 clear hn0 hn1
 obtain⟨x0,x1,x2,x3,x4,x5⟩:=aL HH.out
 have xf:=fun i=>ao HH.out i
 obtain⟨U,hU⟩:∃ U,U=V.setCell ⟨n0,1,none⟩ (.int .i64 (wrap64 (-1 - wrap64 (1 - ho)))):=⟨_,rfl⟩
 have HU:Hid (HpB U n0 { h with on:=wrap64 (-1 - wrap64 (1 - ho)) }∧HpB U n1 Hp.none∧w.grownBy U none):=⟨by rw[hU];exact ar HH.out 1 _,by rw[hU];exact ae (aj _ n0 _ _) HZ.out (fun q=>Hn1.out.2 (Option.some.inj q).symm),by rw[hU];exact am HG.out (aj _ n0 _ _) (fun y e=>by cases e;exact Hn.out)⟩
 go_upto_region 2 with (first | (go_at_call 200;refine(fg _ _).mono ?_;rintro e2 w2 ⟨rfl,q2⟩;obtain rfl:V=w2:=q2.symm) | (go_at_call 213;refine(sS _ _).mono ?_;rintro e2 w2 ⟨rfl,q2⟩;obtain rfl:V=w2:=q2.symm))
 rw[←hU]
 clear hU x0 x1 x2 x3 x4 x5 xf
 obtain⟨y0,y1,y2,y3,y4,y5⟩:=aL HU.out.1
 obtain⟨z0,z1,z2,z3,z4,z5⟩:=di HU.out.2.1
 have zf:=fun i=>ao HU.out.2.1 i
 go_wp2_with fail
 refine bodyPost_ret (v:=hpv { h with on:=wrap64 (-1 - wrap64 (1 - ho)) }) (by simp[results,Tryz.results270,go_sem,hpv,z0,z1,z2,z3,z4,z5]) rfl ⟨rfl,?_⟩
 exact aV HU.out.2.2 Hn1.out.1 _ _ _ _ _ _
theorem zK (h:Hp) (c ho:Int) (w:World):Calls Tryz.prog 271 #[hpv h,.int .i64 c,.int .i64 ho] w fun e w'=>e=.returned (hpv Hp.none)∧w.grownBy w' none:=by
 obtain⟨V,hV⟩:∃ V,V=(w.alloc (.cells #[.int .u8 h.vb,.int .i64 h.on,.int .i64 h.ct,.int .i64 h.ho,.bool h.vn,.bool h.dr] 43)).alloc (.cells #[.int .u8 0,.int .i64 0,.int .i64 0,.int .i64 0,.bool false,.bool false] 43):=⟨_,rfl⟩
 have HG:Hid (w.grownBy V none):=by rw[hV];exact ak (World.grownBy_alloc _ _ none) _
 have HH:Hid (HpB V w.heap.size h):=by rw[hV];exact ae (World.grownBy_alloc _ _ none) (ai w _ _) (by simp)
 have HZ:Hid (HpB V (w.heap.size+1) Hp.none):=by rw[hV];exact aP _ _ _ _
 unfold hpv
 go_enter Tryz.func271,Tryz.ntmps271
 go_upto_region 1 with fail
 rw[←hV]
 clear hV
 obtain⟨n0,hn0⟩:∃ n0,n0=w.heap.size:=⟨_,rfl⟩
 have Hn:Hid (w.heap.size≤n0):=by rw[hn0];exact Nat.le_refl _
 simp only[←hn0] at HH HZ ⊢
 obtain⟨n1,hn1⟩:∃ n1,n1=n0+1:=⟨_,rfl⟩
 have Hn1:Hid (w.heap.size≤n1∧n0≠n1):=⟨by have:=Hn.out;omega,by omega⟩
 simp only[←hn1] at HZ ⊢
 clear hn0 hn1
 obtain⟨x0,x1,x2,x3,x4,x5⟩:=aL HH.out
 clear x0 x1 x2 x3 x4 x5
 obtain⟨z0,z1,z2,z3,z4,z5⟩:=di HZ.out
 have zf:=fun i=>ao HZ.out i
 go_wp2_with fail
 refine bodyPost_ret (v:=hpv Hp.none) (by simp[results,Tryz.results271,go_sem,hpv,Hp.none,z0,z1,z2,z3,z4,z5]) rfl ⟨rfl,?_⟩
 exact aV HG.out Hn1.out.1 _ _ _ _ _ _
end Go.Proofs.YthfjgpjcepmnmaaGreat
