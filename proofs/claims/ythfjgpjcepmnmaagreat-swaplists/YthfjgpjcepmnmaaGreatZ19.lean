/-
  The document's own book: At.
  The document's own book: its list of cards in memory of its own;Cards.
  The document's own book: a card laid at its place,plainly.
  Sets of traits as bits: which numbers are sets.
-/
import Derived.Test.YthfjgpjcepmnmaaGreatZ18
import Derived.Test.YthfjgpjcepmnmaaGreatZ0
namespace Go.Proofs.YthfjgpjcepmnmaaGreat
set_option maxRecDepth 100000
set_option maxHeartbeats 2000000
open Go.RowKit
theorem rat_out (b:Nat) (v:Value) (p:Pl) (es:List Ent) (n:Int) (w:World) (R:RJ w b v p) (L:RL w v es) (hn:¬atIn p es n):Calls Tryz.prog 148 #[.pointer (some ⟨b,0,none⟩),.int .i64 n] w fun e w'=>e=.returned (.tuple #[cv Hd.none (.slice none 0 0),.int .i64 6])∧w.grownBy w' none:=by
 obtain⟨W1,hW1⟩:∃ W1,W1=w.alloc (.cells (ccs Hd.none (.slice none 0 0)) 54):=⟨_,rfl⟩
 have HG1:Hid (w.grownBy W1 none):=by rw[hW1];exact World.grownBy_alloc _ _ none
 have HC1:Hid (CAt W1 w.heap.size Hd.none (.slice none 0 0)):=by rw[hW1];exact alloc_at w _ _
 obtain⟨av,kv,rfl⟩:=L.form
 have HR1:Hid (RJ W1 b (.slice av es.length kv) p):=R.keep HG1.out
 have HL1:Hid (RL W1 (.slice av es.length kv) es):=L.keep HG1.out
 have HF:=rnone_any b _ p W1 HR1.out
 have s1:=HR1.out.shut
 have s2:=HR1.out.list
 obtain⟨z0,z1,z2,z3,z4,z5,z6,z7,z8⟩:=HC1.out.cells
 have zf:=fun i=>HC1.out.free i
 unfold ccs Hd.none at hW1
 simp only[Hd.none] at z0 z1 z2 z3 z4 z5 z6 z7 z8
 have LAST:Hid (w.grownBy (set9 W1 w.heap.size 0 Hd.none (.slice none 0 0)) none):=grown_own HG1.out (grown_s9 W1 w.heap.size 0 Hd.none (.slice none 0 0)) (fun x e=>by cases e;exact Nat.le_refl _)
 unfold set9 Hd.none at LAST
 simp only[Nat.zero_add] at LAST
 unfold atIn at hn
 clear R L
 cases hs:p.shut with
 | false =>
  rw[hs] at s1
  clear hn
  go_enter Tryz.func148,Tryz.ntmps148
  go_upto_region 1 with fail
  rw[←hW1]
  clear hW1
  go_wp2_with (first | (go_at_call 136;refine HF.mono ?_;rintro e w1 ⟨rfl,h1⟩;obtain rfl:W1=w1:=h1.symm) | fail)
  refine bodyPost_ret (v:=.tuple #[cv Hd.none (.slice none 0 0),.int .i64 6]) (by simp[results,Tryz.results148,go_sem,z0,z1,z2,z3,z4,z5,z6,z7,z8,cv,Hd.none]) rfl ⟨rfl,LAST.out⟩
 | true =>
  rw[hs] at s1
  by_cases h1:n<1
  ·clear hn
   go_enter Tryz.func148,Tryz.ntmps148
   go_upto_region 1 with fail
   rw[←hW1]
   clear hW1
   go_wp2_with (first | (go_at_call 136;refine HF.mono ?_;rintro e w1 ⟨rfl,h1⟩;obtain rfl:W1=w1:=h1.symm) | fail)
   refine bodyPost_ret (v:=.tuple #[cv Hd.none (.slice none 0 0),.int .i64 6]) (by simp[results,Tryz.results148,go_sem,z0,z1,z2,z3,z4,z5,z6,z7,z8,cv,Hd.none]) rfl ⟨rfl,LAST.out⟩
  ·have h2:(es.length:Int)<n:=by
    have:¬(1≤n∧n≤es.length):=fun h=>hn ⟨hs,h⟩
    omega
   clear hn
   go_enter Tryz.func148,Tryz.ntmps148
   go_upto_region 1 with fail
   rw[←hW1]
   clear hW1
   go_wp2_with (first | (go_at_call 136;refine HF.mono ?_;rintro e w1 ⟨rfl,h1⟩;obtain rfl:W1=w1:=h1.symm) | fail)
   refine bodyPost_ret (v:=.tuple #[cv Hd.none (.slice none 0 0),.int .i64 6]) (by simp[results,Tryz.results148,go_sem,z0,z1,z2,z3,z4,z5,z6,z7,z8,cv,Hd.none]) rfl ⟨rfl,LAST.out⟩
theorem rat_in (ok:Nat→Prop) (b:Nat) (vl:Value) (p:Pl) (es:List Ent) (m:Nat) (e0:Ent) (w:World) (R:RJ w b vl p) (L:RL w vl es) (h64:es.length≤64) (hG:Good ok w es) (hs:p.shut=true) (he:es[m]?=some e0) (hl:e0.ps.length≤4):Calls Tryz.prog 148 #[.pointer (some ⟨b,0,none⟩),.int .i64 ((m:Int)+1)] w fun e w'=>∃ u,e=.returned (.tuple #[cv e0.h u,.int .i64 0])∧POwn w' w.heap.size u e0.ps∧w.grownBy w' none:=by
 obtain⟨W1,hW1⟩:∃ W1,W1=w.alloc (.cells (ccs Hd.none (.slice none 0 0)) 54):=⟨_,rfl⟩
 have HG1:Hid (w.grownBy W1 none):=by rw[hW1];exact World.grownBy_alloc _ _ none
 have HC1:Hid (CAt W1 w.heap.size Hd.none (.slice none 0 0)):=by rw[hW1];exact alloc_at w _ _
 have hS1:W1.heap.size=w.heap.size+1:=by rw[hW1];simp
 obtain⟨av,kv,rfl⟩:=L.form
 have HR1:Hid (RJ W1 b (.slice av es.length kv) p):=R.keep HG1.out
 have HL1:Hid (RL W1 (.slice av es.length kv) es):=L.keep HG1.out
 have HF:=rnone_any b _ p W1 HR1.out
 have s1:=HR1.out.shut
 have s2:=HR1.out.list
 rw[hs] at s1
 have hm:m<es.length:=(List.getElem?_eq_some_iff.1 he).1
 have PS:=(hG e0 (List.mem_of_getElem? he)).1.keep HG1.out
 obtain⟨g,cap,ev,hrow⟩:=HL1.out.row (by omega)
 injection ev with e1 _ e3
 subst e1
 subst e3
 have hwm:wrap64 (m:Int)=(m:Int):=by unfold wrap64;omega
 have D:C9 W1 g ((wrap64 (m:Int)).toNat*9) e0.h e0.v:=by rw[hwm];exact hrow m e0 he
 obtain⟨hd,v,ps⟩:=e0
 simp only at PS hl D ⊢
 obtain⟨a,c,rfl⟩:=PS.form
 obtain⟨d0,d1,d2,d3,d4,d5,d6,d7,d8⟩:=D
 have HCP:=rcopy_any hd (.slice a ps.length c) ps W1 PS (by omega)
 unfold cv at HCP ⊢
 unfold ccs Hd.none at hW1
 have q1:¬(m:Int)+1<1:=by omega
 have q2:¬(es.length:Int)<(m:Int)+1:=by omega
 have q4:(0:Int)≤wrap64 (m:Int):=by omega
 have q5:wrap64 (m:Int)<(es.length:Int):=by omega
 clear R L hG he hm h64 PS hl hrow hwm
 go_enter Tryz.func148,Tryz.ntmps148
 go_upto_region 1 with fail
 rw[←hW1]
 clear hW1
 go_wp2_with (first | (go_at_call 136;refine HF.mono ?_;rintro e w1 ⟨rfl,h1⟩;obtain rfl:W1=w1:=h1.symm) | (go_at_call 140;refine HCP.mono ?_;rintro e w2 ⟨u,rfl,o2,g2⟩;obtain⟨a2,k2,rfl⟩:=o2.at.form;have HO2:Hid (POwn w2 W1.heap.size (.slice a2 ps.length k2) ps):=o2;have HG2:Hid (w.grownBy w2 none):=grown_trans HG1.out g2;have C2:=HC1.out.keep g2;obtain⟨z0,z1,z2,z3,z4,z5,z6,z7,z8⟩:=C2.cells;have zf:=fun i=>C2.free i;simp only[Hd.none] at z0 z1 z2 z3 z4 z5 z6 z7 z8;clear o2 C2 d0 d1 d2 d3 d4 d5 d6 d7 d8) | fail)
 refine bodyPost_ret (v:=.tuple #[cv hd (.slice a2 ps.length k2),.int .i64 0]) (by simp[results,Tryz.results148,go_sem,z0,z1,z2,z3,z4,z5,z6,z7,z8,cv]) rfl ⟨.slice a2 ps.length k2,rfl,?_,?_⟩
 ·have:=(HO2.out.keep (grown_s9 w2 w.heap.size 0 hd (.slice a2 ps.length k2)) (fun x e=>by cases e;omega)).big (show w.heap.size≤W1.heap.size by omega)
  unfold set9 at this
  simp only[Nat.zero_add] at this
  exact this
 ·have:=grown_own HG2.out (grown_s9 w2 w.heap.size 0 hd (.slice a2 ps.length k2)) (fun x e=>by cases e;exact Nat.le_refl _)
  unfold set9 at this
  simp only[Nat.zero_add] at this
  exact this
theorem cell_block' {w:World} {g o:Nat} {v:Value} (h:w.cell? ⟨g,o,none⟩=some v):g<w.heap.size:=by
 by_cases hg:g<w.heap.size
 ·exact hg
 ·have:w.heap[g]?=none:=Array.getElem?_eq_none (by omega)
  simp[World.cell?,this] at h
theorem PsOk.old {ok:Nat→Prop} {w:World} {v:Value} {ps:List Pt} (h:PsOk ok w v ps):PsOk (fun k=>ok k∧k<w.heap.size) w v ps:=by
 obtain⟨h1,h2⟩:=h
 refine⟨h1,fun g o n c ev hn=>⟨h2 g o n c ev hn,?_⟩⟩
 obtain⟨x,y,hf⟩:=h1.form
 rw[hf] at ev
 injection ev with e1 e2 e3
 have h0:0<ps.length:=by omega
 obtain⟨g',off,cap,ev',hP⟩:=h1.part h0
 rw[hf] at ev'
 injection ev' with e1' _ _
 rw[e1] at e1'
 injection e1' with e1'
 injection e1' with e1' _ _
 subst e1'
 obtain⟨p,hp⟩:∃ p,ps[0]?=some p:=⟨_,List.getElem?_eq_getElem h0⟩
 exact cell_block' (hP 0 p hp).c0
theorem POwn.ok {w:World} {base:Nat} {v:Value} {ps:List Pt} (h:POwn w base v ps):PsOk (fun k=>base≤k) w v ps:=⟨h.at,fun g o n c ev _=>h.block g (by rw[ev];rfl)⟩
def EOwn (w:World) (base:Nat) (v:Value) (fs:List Ent):Prop:=w.ownsRow base 54 9 v fs.length (ecells fs)
theorem EOwn.rl {w:World} {base:Nat} {v:Value} {fs:List Ent} (h:EOwn w base v fs):RL w v fs:=by
 have hh:=h
 obtain⟨h1,⟨rfl,h2⟩ | ⟨g,cap,cur,rfl,hb,_⟩⟩:=h
 ·exact Or.inl ⟨rfl,List.eq_nil_of_length_eq_zero h2⟩
 ·refine Or.inr ⟨g,cap,rfl,fun j e he=>?_⟩
  have at_:∀ k u,k<9→(cvs e.h e.v)[k]?=some u→w.cell? ⟨g,0+j*9+k,none⟩=some u:=fun k u hk hu=>by
   have:=World.ownsRow.cells hh (g:=g) rfl (j*9+k) u (by rw[ecells_at fs j e he k hk];exact hu)
   rw[add_plain] at this
   rw[Nat.zero_add] at this ⊢
   exact this
  exact⟨at_ 0 _ (by omega) rfl,at_ 1 _ (by omega) rfl,at_ 2 _ (by omega) rfl,at_ 3 _ (by omega) rfl,at_ 4 _ (by omega) rfl,at_ 5 _ (by omega) rfl,at_ 6 _ (by omega) rfl,at_ 7 _ (by omega) rfl,at_ 8 _ (by omega) rfl⟩
theorem cvs_one (h:Hd) (a:Option Addr) (n c:Nat):∀ u∈cvs h (.slice a n c),u.oneCell'=true:=fun u hu=>by
 simp only[cvs,List.mem_cons,List.not_mem_nil,or_false] at hu
 rcases hu with rfl | rfl | rfl | rfl | rfl | rfl | rfl | rfl | rfl <;> rfl
theorem Tryz.info54:(Tryz.prog.info? 54).map (fun i=>(i.zero,i.size,i.bytes))=some (some (.agg #[.string ByteArray.empty,.int .u8 0,.int .u8 0,.int .i64 0,.int .i64 0,.int .i64 0,.int .u16 0,.bool false,.slice none 0 0]),9,80):=by kernel_rfl
theorem ecells_snoc (gs:List Ent) (e:Ent):ecells (gs++[e])=ecells gs++cvs e.h e.v:=by rw[ecells_app];simp[ecells]
def hp (e:Ent):Hd×List Pt:=(e.h,e.ps)
theorem one_new {w:World} {h:Hd} {v:Value}:∀ j u,(cvs h v)[j]?=some u→(w.alloc (.cells (ccs h v) 54)).cell? ((⟨w.heap.size,0,none⟩:Addr).add j)=some u:=fun j u hu=>by
 rw[add_plain,block_cell (alloc_at w _ _),Nat.zero_add]
 show (cvs h v).toArray[j]?=_
 rw[List.getElem?_toArray]
 exact hu
theorem good_snoc {wr w2 w7:World} {v v':Value} {base:Nat} {gs:List Ent} {h:Hd} {u:Value} {ps:List Pt} {ok:Nat→Prop} (hG:Good (fun k=>ok k∧some k≠v.ownBlock) wr gs) (g2:wr.grownBy w2 none) (hO:wr.ownsRow base 54 9 v gs.length (ecells gs)) (hU:POwn w2 wr.heap.size u ps) (hok:∀ k,wr.heap.size≤k→ok k) (g7:(w2.alloc (.cells (ccs h u) 54)).grownBy w7 v.ownBlock) (hv:v'.ownBlock=v.ownBlock∨v'.ownBlock=some (w2.alloc (.cells (ccs h u) 54)).heap.size):Good (fun k=>ok k∧some k≠v'.ownBlock) w7 (gs++[⟨h,u,ps⟩]):=by
 have sz2:wr.heap.size≤w2.heap.size:=g2.size
 have sz3:w2.heap.size<(w2.alloc (.cells (ccs h u) 54)).heap.size:=by simp
 have key:∀ k,ok k→some k≠v.ownBlock→k<w2.heap.size→some k≠v'.ownBlock:=fun k h1 h2 h3=>by
  rcases hv with e | e
  ·rw[e];exact h2
  ·rw[e]
   intro e'
   injection e' with e'
   omega
 intro e he
 rcases List.mem_append.1 he with he | he
 ·have h1:=(((hG e he).old).keep g2).keep (World.grownBy_alloc w2 (.cells (ccs h u) 54) none)
  have h2:=h1.keepR g7 (fun k hk=>hk.1.2)
  exact h2.mono fun k hk=>⟨hk.1.1,key k hk.1.1 hk.1.2 (by omega)⟩
 ·obtain rfl:e=⟨h,u,ps⟩:=by simpa using he
  have h1:=(hU.ok.old).keep (World.grownBy_alloc w2 (.cells (ccs h u) 54) none)
  have ne:∀ k,wr.heap.size≤k→some k≠v.ownBlock:=fun k hk e'=>by
   have:=(World.ownsRow.lt hO k e'.symm).2
   omega
  have h2:=h1.keepR g7 (fun k hk=>ne k hk.1)
  exact h2.mono fun k hk=>⟨hok k hk.1,key k (hok k hk.1) (ne k hk.1) hk.2⟩
def NoA (fs:List Ent) (h:Hd) (m:Nat):Prop:=∀ (j:Nat) e,j<m→fs[j]?=some e→¬ord h e.h<0
theorem NoA.next {fs:List Ent} {h:Hd} {m:Nat} {e:Ent} (k:NoA fs h m) (he:fs[m]?=some e) (hn:¬ord h e.h<0):NoA fs h (m+1):=fun j x hj hx=>by
 rcases (show j<m∨j=m from by omega) with h1 | rfl
 ·exact k j x h1 hx
 ·rw[he] at hx
  obtain rfl:=Option.some.inj hx
  exact hn
theorem rk_is:∀ (fs:List Ent) (h:Hd) (m:Nat),m≤fs.length→(∀ x∈fs,¬x.h.nm=h.nm)→NoA fs h m→(∀ e,fs[m]?=some e→ord h e.h<0)→rk fs h=m
 | [],h,m,hm,_,_,_=>by simp at hm;subst hm;rfl
 | x :: r,h,0,_,_,_,hl=>by
  have h1:=(ord_lt _ _).1 (hl x rfl)
  have h2:¬ord x.h h<0:=fun k=>Ahd.irrefl _ (h1.trans ((ord_lt _ _).1 k))
  simp only[rk]
  rw[if_neg h2]
 | x :: r,h,m+1,hm,hu,hn,hl=>by
  have h1:¬Ahd h x.h:=fun k=>hn 0 x (Nat.succ_pos _) rfl ((ord_lt _ _).2 k)
  have h2:Ahd x.h h:=(Ahd.tri (hu x (by simp))).resolve_right h1
  have ih:=rk_is r h m (by simpa using hm) (fun y hy=>hu y (List.mem_cons_of_mem _ hy)) (fun j e hj he=>hn (j+1) e (by omega) (by simpa using he)) (fun e he=>hl e (by simpa using he))
  simp only[rk]
  rw[if_pos ((ord_lt _ _).2 h2),ih]
def St (fs:List Ent) (h:Hd) (ps:List Pt) (gs:List Ent) (i:Nat) (pb:Bool):Prop:=(pb=false∧gs=fs.take i∧NoA fs h i)∨(pb=true∧∃ u m,m<i∧gs=fs.take m++(⟨h,u,ps⟩:Ent) :: (fs.take i).drop m∧NoA fs h m∧∀ e,fs[m]?=some e→ord h e.h<0)
theorem St.len {fs:List Ent} {h:Hd} {ps:List Pt} {gs:List Ent} {i:Nat} {pb:Bool} (s:St fs h ps gs i pb):gs.length≤i+1:=by
 rcases s with ⟨_,rfl,_⟩ | ⟨_,u,m,hm,rfl,_⟩
 ·rw[List.length_take];omega
 ·rw[List.length_append,List.length_cons,List.length_take,List.length_drop,List.length_take];omega
theorem take_one {fs:List Ent} {i:Nat} {e:Ent} (he:fs[i]?=some e):fs.take (i+1)=fs.take i++[e]:=by
 rw[List.take_add_one,he]
 rfl
theorem St.old {fs:List Ent} {h:Hd} {ps:List Pt} {gs:List Ent} {i:Nat} {e:Ent} (s:St fs h ps gs i false) (he:fs[i]?=some e) (hn:¬ord h e.h<0):St fs h ps (gs++[e]) (i+1) false:=by
 rcases s with ⟨_,rfl,k⟩ | ⟨c,_⟩
 ·exact Or.inl ⟨rfl,(take_one he).symm,k.next he hn⟩
 ·cases c
theorem St.put {fs:List Ent} {h:Hd} {ps:List Pt} {gs:List Ent} {i:Nat} {e:Ent} (s:St fs h ps gs i false) (he:fs[i]?=some e) (hn:ord h e.h<0) (u:Value):St fs h ps ((gs++[(⟨h,u,ps⟩:Ent)])++[e]) (i+1) true:=by
 rcases s with ⟨_,rfl,k⟩ | ⟨c,_⟩
 ·have hl:=(List.getElem?_eq_some_iff.1 he).1
  refine Or.inr ⟨rfl,u,i,by omega,?_,k,fun x hx=>by rw[he] at hx;obtain rfl:=Option.some.inj hx;exact hn⟩
  rw[take_one he,List.drop_append_of_le_length (by rw[List.length_take];omega),List.drop_eq_nil_of_le (by rw[List.length_take];omega)]
  simp
 ·cases c
theorem St.on {fs:List Ent} {h:Hd} {ps:List Pt} {gs:List Ent} {i:Nat} {e:Ent} (s:St fs h ps gs i true) (he:fs[i]?=some e):St fs h ps (gs++[e]) (i+1) true:=by
 rcases s with ⟨c,_⟩ | ⟨_,u,m,hm,rfl,k,l⟩
 ·cases c
 ·have hl:=(List.getElem?_eq_some_iff.1 he).1
  refine Or.inr ⟨rfl,u,m,by omega,?_,k,l⟩
  rw[take_one he,List.drop_append_of_le_length (by rw[List.length_take];omega)]
  simp
theorem St.endT {fs:List Ent} {h:Hd} {ps:List Pt} {gs:List Ent} (s:St fs h ps gs fs.length true) (hu:∀ x∈fs,¬x.h.nm=h.nm):∃ u,gs=ins fs ⟨h,u,ps⟩:=by
 rcases s with ⟨c,_⟩ | ⟨_,u,m,hm,rfl,k,l⟩
 ·cases c
 ·refine⟨u,?_⟩
  unfold ins
  rw[show rk fs (⟨h,u,ps⟩:Ent).h=m from rk_is fs h m (by omega) hu k l,List.take_length]
theorem St.endF {fs:List Ent} {h:Hd} {ps:List Pt} {gs:List Ent} (s:St fs h ps gs fs.length false) (hu:∀ x∈fs,¬x.h.nm=h.nm) (u:Value):gs++[(⟨h,u,ps⟩:Ent)]=ins fs ⟨h,u,ps⟩:=by
 rcases s with ⟨_,rfl,k⟩ | ⟨c,_⟩
 ·unfold ins
  rw[show rk fs (⟨h,u,ps⟩:Ent).h=fs.length from rk_is fs h fs.length (Nat.le_refl _) hu k (fun e he=>by simp at he),List.drop_length]
 ·cases c
theorem good_old {wr w7:World} {v v':Value} {base:Nat} {gs:List Ent} {e:Ent} {ok:Nat→Prop} (hG:Good (fun k=>ok k∧some k≠v.ownBlock) wr gs) (hO:wr.ownsRow base 54 9 v gs.length (ecells gs)) (hE:PsOk (fun k=>ok k∧k<base) wr e.v e.ps) (hb:base≤wr.heap.size) (g7:(wr.alloc (.cells (ccs e.h e.v) 54)).grownBy w7 v.ownBlock) (hv:v'.ownBlock=v.ownBlock∨v'.ownBlock=some (wr.alloc (.cells (ccs e.h e.v) 54)).heap.size):Good (fun k=>ok k∧some k≠v'.ownBlock) w7 (gs++[e]):=by
 have sz3:wr.heap.size<(wr.alloc (.cells (ccs e.h e.v) 54)).heap.size:=by simp
 have key:∀ k,some k≠v.ownBlock→k<wr.heap.size→some k≠v'.ownBlock:=fun k h2 h3=>by
  rcases hv with e | e
  ·rw[e];exact h2
  ·rw[e]
   intro e'
   injection e' with e'
   omega
 intro x hx
 rcases List.mem_append.1 hx with hx | hx
 ·have h1:=((hG x hx).old).keep (World.grownBy_alloc wr (.cells (ccs e.h e.v) 54) none)
  have h2:=h1.keepR g7 (fun k hk=>hk.1.2)
  exact h2.mono fun k hk=>⟨hk.1.1,key k hk.1.2 (by omega)⟩
 ·obtain rfl:x=e:=by simpa using hx
  have h1:=hE.keep (World.grownBy_alloc wr (.cells (ccs x.h x.v) 54) none)
  have ne:∀ k,k<base→some k≠v.ownBlock:=fun k hk e'=>by
   have:=(World.ownsRow.lt hO k e'.symm).1
   omega
  have h2:=h1.keepR g7 (fun k hk=>ne k hk.2)
  exact h2.mono fun k hk=>⟨hk.1,key k (ne k hk.2) (by omega)⟩
def bv (s:Int):BitVec 16:=BitVec.ofInt 16 s
theorem wrap_bv (x:BitVec 16):IntKind.u16.wrap (x.toNat:Int)=(x.toNat:Int):=by
 have:=x.isLt
 rw[IntKind.wrap_u16]
 omega
theorem bv_nat (x:BitVec 16):bv (x.toNat:Int)=x:=by
 unfold bv
 rw[BitVec.ofInt_natCast,BitVec.ofNat_toNat,BitVec.setWidth_eq]
theorem bits_andNot (a b:Int):bits .andNot .u16 a b=((bv a &&& ~~~bv b).toNat:Int):=by
 show IntKind.u16.wrap ((BitVec.ofInt 16 a &&& ~~~BitVec.ofInt 16 b).toNat:Int)=_
 rw[wrap_bv];rfl
theorem bits_or (a b:Int):bits .or .u16 a b=((bv a ||| bv b).toNat:Int):=by
 show IntKind.u16.wrap ((BitVec.ofInt 16 a ||| BitVec.ofInt 16 b).toNat:Int)=_
 rw[wrap_bv];rfl
theorem check_bv (s:Int):tCheck s=(bv s &&& ~~~255#16 == 0#16):=by
 unfold tCheck;rw[bits_andNot]
 have e:bv 255=255#16:=by decide
 rw[e]
 by_cases h:bv s &&& ~~~255#16=0#16
 ·rw[h];rfl
 ·have hn:¬(bv s &&& ~~~255#16).toNat=0:=fun e=>h (BitVec.eq_of_toNat_eq (by rw[e];rfl))
  have h1:¬((bv s &&& ~~~255#16).toNat:Int)=0:=by omega
  rw[beq_eq_false_iff_ne.2 h1,beq_eq_false_iff_ne.2 h]
theorem bv_part (x m:BitVec 16):(x &&& ~~~m=0#16)↔(x &&& m=x):=by
 constructor
 ·intro h
  apply BitVec.eq_of_getLsbD_eq
  intro i hi
  have hb:(x &&& ~~~m).getLsbD i=false:=by rw[h,BitVec.getLsbD_zero]
  rw[BitVec.getLsbD_and,BitVec.getLsbD_not] at hb
  rw[BitVec.getLsbD_and]
  revert hb
  cases x.getLsbD i <;> cases m.getLsbD i <;> simp[hi]
 ·intro h
  apply BitVec.eq_of_getLsbD_eq
  intro i hi
  have hb:(x &&& m).getLsbD i=x.getLsbD i:=by rw[h]
  rw[BitVec.getLsbD_and] at hb
  rw[BitVec.getLsbD_and,BitVec.getLsbD_not,BitVec.getLsbD_zero]
  revert hb
  cases x.getLsbD i <;> cases m.getLsbD i <;> simp
theorem check_is (s:Int) (h0:0≤s) (h1:s<65536):tCheck s=decide (s<256):=by
 obtain⟨n,rfl⟩:=Int.eq_ofNat_of_zero_le h0
 rw[check_bv]
 have hn:(bv (n:Int)).toNat=n:=by
  unfold bv
  rw[BitVec.ofInt_natCast,BitVec.toNat_ofNat]
  omega
 have hm:(bv (n:Int) &&& 255#16).toNat=n % 256:=by
  rw[BitVec.toNat_and,hn]
  exact Nat.and_two_pow_sub_one_eq_mod n 8
 by_cases h:n<256
 ·have e:bv (n:Int) &&& ~~~255#16=0#16:=(bv_part _ _).2 (BitVec.eq_of_toNat_eq (by rw[hm,hn];omega))
  have h':(n:Int)<256:=by omega
  rw[e,decide_eq_true h']
  rfl
 ·have e:¬bv (n:Int) &&& ~~~255#16=0#16:=fun e=>by
   have:=congrArg BitVec.toNat ((bv_part _ _).1 e)
   rw[hm,hn] at this
   omega
  have h':¬(n:Int)<256:=by omega
  rw[decide_eq_false h',beq_eq_false_iff_ne.2 e]
end Go.Proofs.YthfjgpjcepmnmaaGreat
