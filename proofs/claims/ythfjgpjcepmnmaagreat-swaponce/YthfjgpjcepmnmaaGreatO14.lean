import Derived.Test.YthfjgpjcepmnmaaGreatO13
import Derived.Test.YthfjgpjcepmnmaaGreatO11
import Derived.Maps.AppendAt
import Derived.Laws.Tables
import Derived.Laws.StructEq
import Derived.WalkMore
namespace Go.Proofs.YthfjgpjcepmnmaaGreat
set_option maxRecDepth 100000
set_option maxHeartbeats 4000000
open Go.RowKit
theorem aJ {a b:Bool} (h:a=b):Ending.returned (.bool a)=Ending.returned (.bool b):=by rw[h]
theorem ij {a b:World} {c:Nat} (h:a.grownBy b none) (hc:a.heap.size≤c) (v0 v1 v2 v3 v4 v5 v6:Value):a.grownBy (((((((b.setCell ⟨c,0,none⟩ v0).setCell ⟨c,1,none⟩ v1).setCell ⟨c,2,none⟩ v2).setCell ⟨c,3,none⟩ v3).setCell ⟨c,4,none⟩ v4).setCell ⟨c,5,none⟩ v5).setCell ⟨c,6,none⟩ v6) none:=am h (((((((aj _ _ _ _).trans (aj _ _ _ _)).trans (aj _ _ _ _)).trans (aj _ _ _ _)).trans (aj _ _ _ _)).trans (aj _ _ _ _)).trans (aj _ _ _ _)) (fun y e=>by cases e;exact hc)
theorem dB (a b:Int):(a == b)=decide (a=b):=by rw[Bool.eq_iff_iff];simp
theorem BS (a b:Int):(a != b)=!decide (a=b):=by rw[Bool.eq_iff_iff];simp
def cdv (f:Fe) (u o:Bool):Value:=.agg #[.int .i64 f.ho,.int .u8 f.su,.int .u16 f.tr,.int .i64 f.po,.int .i64 f.he,.bool u,.bool o]
def CdB (w:World) (g:Nat) (f:Fe) (u o:Bool):Prop:=w.heap[g]?=some (.cells #[.int .i64 f.ho,.int .u8 f.su,.int .u16 f.tr,.int .i64 f.po,.int .i64 f.he,.bool u,.bool o] 283 (0,0))
theorem qr {w:World} {g:Nat} {f:Fe} {u o:Bool} (h:CdB w g f u o):w.cell? ⟨g,0,none⟩=some (.int .i64 f.ho)∧w.cell? ⟨g,1,none⟩=some (.int .u8 f.su)∧w.cell? ⟨g,2,none⟩=some (.int .u16 f.tr)∧w.cell? ⟨g,3,none⟩=some (.int .i64 f.po)∧w.cell? ⟨g,4,none⟩=some (.int .i64 f.he)∧w.cell? ⟨g,5,none⟩=some (.bool u)∧w.cell? ⟨g,6,none⟩=some (.bool o) :=
 ⟨(ac h 0).trans rfl,(ac h 1).trans rfl,(ac h 2).trans rfl,(ac h 3).trans rfl,(ac h 4).trans rfl,(ac h 5).trans rfl,(ac h 6).trans rfl⟩
def PqB (w:World) (n:Nat) (p:Pt):Prop:=w.heap[n]?=some (.cells #[.int .u8 p.wn,.int .u8 p.vb,.int .u8 p.wm,.int .i64 p.ct,.int .u8 p.su,.int .u8 p.tr,.int .u8 p.mr,.string p.nm] 38 (0,0))
theorem uv {w:World} {g:Nat} {p:Pt} (h:PqB w g p):w.cell? ⟨g,0,none⟩=some (.int .u8 p.wn)∧w.cell? ⟨g,1,none⟩=some (.int .u8 p.vb)∧w.cell? ⟨g,2,none⟩=some (.int .u8 p.wm)∧w.cell? ⟨g,3,none⟩=some (.int .i64 p.ct)∧w.cell? ⟨g,4,none⟩=some (.int .u8 p.su)∧w.cell? ⟨g,5,none⟩=some (.int .u8 p.tr)∧w.cell? ⟨g,6,none⟩=some (.int .u8 p.mr)∧w.cell? ⟨g,7,none⟩=some (.string p.nm) :=
 ⟨(ac h 0).trans rfl,(ac h 1).trans rfl,(ac h 2).trans rfl,(ac h 3).trans rfl,(ac h 4).trans rfl,(ac h 5).trans rfl,(ac h 6).trans rfl,(ac h 7).trans rfl⟩
theorem tD (p:Pt) (ho:Int) (f:Fe) (u o:Bool) (w:World):Calls Tryz.prog 272 #[pv p,.int .i64 ho,cdv f u o] w fun e w'=>e=.returned (.bool (gJ p o f ho))∧w.grownBy w' none:=by
 obtain⟨W1,hW1⟩:∃ W1,W1=(w.alloc (.cells #[.int .u8 p.wn,.int .u8 p.vb,.int .u8 p.wm,.int .i64 p.ct,.int .u8 p.su,.int .u8 p.tr,.int .u8 p.mr,.string p.nm] 38)).alloc (.cells #[.int .i64 f.ho,.int .u8 f.su,.int .u16 f.tr,.int .i64 f.po,.int .i64 f.he,.bool u,.bool o] 283):=⟨_,rfl⟩
 have HG1:Hid (w.grownBy W1 none):=by rw[hW1];exact ak (World.grownBy_alloc _ _ none) _
 have HP:Hid (PqB W1 w.heap.size p):=by rw[hW1];exact ae (World.grownBy_alloc _ _ none) (ai w _ _) (by simp)
 have HC:Hid (CdB W1 (w.heap.size+1) f u o):=by rw[hW1];exact aP _ _ _ _
 unfold pv cdv
 go_enter Tryz.func272,Tryz.ntmps272
 go_upto_region 1 with fail
 rw[←hW1]
 clear hW1
 obtain⟨n0,h0⟩:∃ n0,n0=w.heap.size:=⟨_,rfl⟩
 simp only[←h0] at HP HC ⊢
 obtain⟨n1,h1⟩:∃ n1,n1=n0+1:=⟨_,rfl⟩
 simp only[←h1] at HC ⊢
 clear h0 h1
 obtain⟨p0,p1,u4,p3,u6,u7,p6,p7⟩:=uv HP.out
 obtain⟨q0,q1,q2,q3,q4,q5,q6⟩:=qr HC.out
 clear p0 p1 p3 p6 p7 q3 q4 q5
 by_cases d5:p.wm=5
 ·have HY:Hid (gJ p o f ho=(f.ho == ho)):=by show _=_;unfold gJ;rw[if_pos d5];rw[dB]
  rw[d5] at u4
  clear d5
  go_wp2
  go_ret
  exact⟨aJ HY.out.symm,HG1.out⟩
 by_cases d8:p.wm=8
 ·cases ho1:(f.ho == ho) with
  | true =>
   have hb:f.ho=ho:=by simpa using ho1
   have HY:Hid (gJ p o f ho=(!o)):=by show _=_;unfold gJ;rw[if_neg d5,if_pos d8];simp[hb]
   rw[d8] at u4
   clear hb d5 d8
   go_wp2
   go_ret
   exact⟨aJ HY.out.symm,HG1.out⟩
  | false =>
   have hb:¬f.ho=ho:=by simpa using ho1
   have HY:Hid (gJ p o f ho=false):=by show _=_;unfold gJ;rw[if_neg d5,if_pos d8];simp[hb]
   rw[d8] at u4
   clear hb d5 d8
   go_wp2
   go_ret
   exact⟨aJ HY.out.symm,HG1.out⟩
 by_cases d6:p.wm=6
 ·have HY:Hid (gJ p o f ho=(f.ho != ho)):=by show _=_;unfold gJ;rw[if_neg d5,if_neg d8,if_pos d6];rw[BS]
  rw[d6] at u4
  clear d5 d8 d6
  go_wp2
  go_ret
  exact⟨aJ HY.out.symm,HG1.out⟩
 by_cases d7:p.wm=7
 ·have HY:Hid (gJ p o f ho=true):=by show _=_;unfold gJ;rw[if_neg d5,if_neg d8,if_neg d6,if_pos d7]
  rw[d7] at u4
  clear d5 d8 d6 d7
  go_wp2
  go_ret
  exact⟨aJ HY.out.symm,HG1.out⟩
 by_cases d9:p.wm=9
 ·have HY:Hid (gJ p o f ho=(f.su == p.su)):=by show _=_;unfold gJ;rw[if_neg d5,if_neg d8,if_neg d6,if_neg d7,if_pos d9];rw[dB]
  rw[d9] at u4
  clear d5 d8 d6 d7 d9
  go_wp2
  go_ret
  exact⟨aJ HY.out.symm,HG1.out⟩
 by_cases d10:p.wm=10
 ·have HY:Hid (gJ p o f ho=(iC f.tr p.tr)):=by show _=_;unfold gJ;rw[if_neg d5,if_neg d8,if_neg d6,if_neg d7,if_neg d9,if_pos d10]
  rw[d10] at u4
  clear d5 d8 d6 d7 d9 d10
  go_wp2_with (go_at_call 129;refine(lq _ _ _).mono ?_;rintro e3 w3 ⟨rfl,rfl⟩)
  go_ret
  exact⟨aJ HY.out.symm,HG1.out⟩
 have HY:Hid (gJ p o f ho=false):=by show _=_;unfold gJ;rw[if_neg d5,if_neg d8,if_neg d6,if_neg d7,if_neg d9,if_neg d10]
 have k5:(p.wm == 5)=false:=by simpa using d5
 have k8:(p.wm == 8)=false:=by simpa using d8
 have k6:(p.wm == 6)=false:=by simpa using d6
 have k7:(p.wm == 7)=false:=by simpa using d7
 have k9:(p.wm == 9)=false:=by simpa using d9
 have k10:(p.wm == 10)=false:=by simpa using d10
 clear d5 d8 d6 d7 d9 d10
 go_wp2
 go_ret
 exact⟨aJ HY.out.symm,HG1.out⟩
theorem uP (p:Pt) (ho:Int) (f:Fe) (u o:Bool) (w:World):Calls Tryz.prog 214 #[pv p,.int .i64 ho,cdv f u o] w fun e w'=>e=.returned (.bool (fI p o u f ho))∧w.grownBy w' none:=by
 have hU:=fun W=>tD p ho f u o W
 obtain⟨W1,hW1⟩:∃ W1,W1=(w.alloc (.cells #[.int .u8 p.wn,.int .u8 p.vb,.int .u8 p.wm,.int .i64 p.ct,.int .u8 p.su,.int .u8 p.tr,.int .u8 p.mr,.string p.nm] 38)).alloc (.cells #[.int .i64 f.ho,.int .u8 f.su,.int .u16 f.tr,.int .i64 f.po,.int .i64 f.he,.bool u,.bool o] 283):=⟨_,rfl⟩
 have HG1:Hid (w.grownBy W1 none):=by rw[hW1];exact ak (World.grownBy_alloc _ _ none) _
 have HP:Hid (PqB W1 w.heap.size p):=by rw[hW1];exact ae (World.grownBy_alloc _ _ none) (ai w _ _) (by simp)
 have HC:Hid (CdB W1 (w.heap.size+1) f u o):=by rw[hW1];exact aP _ _ _ _
 unfold pv cdv
 go_enter Tryz.func214,Tryz.ntmps214
 go_upto_region 1 with fail
 rw[←hW1]
 clear hW1
 obtain⟨n0,h0⟩:∃ n0,n0=w.heap.size:=⟨_,rfl⟩
 simp only[←h0] at HP HC ⊢
 obtain⟨n1,h1⟩:∃ n1,n1=n0+1:=⟨_,rfl⟩
 simp only[←h1] at HC ⊢
 clear h0 h1
 unfold pv cdv at hU
 obtain⟨p0,p1,u4,p3,u6,u7,p6,p7⟩:=uv HP.out
 obtain⟨q0,q1,q2,q3,q4,q5,q6⟩:=qr HC.out
 by_cases d4:p.wm=4
 ·have HY:Hid (fI p o u f ho=o):=by show _=_;unfold fI;rw[if_pos d4]
  rw[d4] at u4
  clear d4 hU
  go_wp2
  go_ret
  exact⟨aJ HY.out.symm,HG1.out⟩
 have k4:(p.wm == 4)=false:=by simpa using d4
 cases u with
 | false =>
  have HY:Hid (fI p o false f ho=false):=by show _=_;unfold fI;rw[if_neg d4,if_pos rfl]
  clear d4 hU
  go_wp2
  go_ret
  exact⟨aJ HY.out.symm,HG1.out⟩
 | true =>
  have HY:Hid (fI p o true f ho=gJ p o f ho):=ul d4
  clear d4
  go_wp2_with (go_at_call 272;refine(hU _).mono ?_;rintro e3 w3 ⟨rfl,g3⟩;have HG3:Hid (W1.grownBy w3 none):=g3)
  go_ret
  exact⟨aJ HY.out.symm,aa HG1.out HG3.out⟩
theorem fj (w:World) (o p:Obj) (cs:Array Value) (t:TypeId):(((w.alloc o).alloc p).alloc (.cells cs t)).heap[w.heap.size+1+1]?=some (.cells cs t (0,0)):=by have:=ai ((w.alloc o).alloc p) cs t;rwa [World.size_alloc,World.size_alloc] at this
theorem ap {a b:World} {c:Nat} (h:a.grownBy b none) (hc:a.heap.size≤c) (i:Nat) (v:Value):a.grownBy (b.setCell ⟨c,i,none⟩ v) none:=am h (aj _ _ _ _) (fun y e=>by cases e;exact hc)
theorem sixteen {α:Type}:∀ l:List α,l.length=16→∃ b0 b1 b2 b3 b4 b5 b6 b7 b8 b9 b10 b11 b12 b13 b14 b15,l=[b0,b1,b2,b3,b4,b5,b6,b7,b8,b9,b10,b11,b12,b13,b14,b15]
 | [b0,b1,b2,b3,b4,b5,b6,b7,b8,b9,b10,b11,b12,b13,b14,b15],_=>⟨b0,b1,b2,b3,b4,b5,b6,b7,b8,b9,b10,b11,b12,b13,b14,b15,rfl⟩
theorem bF {n k:Nat} (h:k<n):n - (intOf (.int .i64 ((k:Int)+1))).toNat<n - (intOf (.int .i64 (k:Int))).toNat:=by
 show n - ((k:Int)+1).toNat<n - (k:Int).toNat
 omega
def mx (R:List Rw) (l:List Bool) (k:Nat):List Int:=(List.range k).filterMap fun i=>if l.getD i false then some (R.getD i Rw.none).nu else none
def eB (R:List Rw) (l:List Bool):List Int:=mx R l R.length
theorem Au {R:List Rw} {l:List Bool} {k:Nat} (h:l.getD k false=true):mx R l (k+1)=mx R l k++[(R.getD k Rw.none).nu]:=by
 unfold mx
 rw[List.range_succ,List.filterMap_append,List.filterMap_cons,h]
 rfl
theorem Dc {R:List Rw} {l:List Bool} {k:Nat} (h:l.getD k false=false):mx R l (k+1)=mx R l k:=by
 unfold mx
 rw[List.range_succ,List.filterMap_append,List.filterMap_cons,h]
 simp
theorem mC (R:List Rw) (l:List Bool) (k:Nat):(mx R l k).length≤k:=by
 have:=List.length_filterMap_le (fun i=>if l.getD i false then some (R.getD i Rw.none).nu else none) (List.range k)
 rwa [List.length_range] at this
theorem ky (l:List Int):∀ u∈cD l,u.oneCell'=true:=fun u h=>by
 unfold cD at h
 obtain⟨z,_,rfl⟩:=List.mem_map.1 h
 rfl
def aU (w:World) (base:Nat) (v:Value) (l:List Int):Prop:=w.ownsRow base 3 1 v l.length (cD l)
theorem aU.form {w:World} {base:Nat} {v:Value} {l:List Int} (h:aU w base v l):∃ p c,v=.slice p l.length c:=by
 obtain⟨p,c,e,_⟩:=cH h
 exact⟨p,c,e⟩
theorem lE (U:World) (x:Int):∀ j u,(cD [x])[j]?=some u→(U.alloc (.cells #[.int .i64 x] 3)).cell? ((⟨U.heap.size,0,none⟩:Addr).add j)=some u:=fun j u hu=>by
 rw[ib,Nat.zero_add,ac (ai _ _ _)]
 simpa [cD] using hu
theorem kF {w':World} {base n:Nat} {v:Value} {l:List Int} {x:Int} (h:w'.ownsRow base 3 1 v (n+1) (cD l++cD [x])) (hn:n=l.length):aU w' base v (l++[x]):=by
 unfold aU
 rw[List.length_append,List.length_singleton,show cD (l++[x])=cD l++cD [x] from by simp[cD],←hn]
 exact h
theorem Tryz.linfo3:(Tryz.prog.info? 3).map (fun i=>(i.zero,i.size,i.bytes))=some (some (.int .i64 0),1,8):=by kernel_rfl
theorem fb {P:Program} {w:World} {o:Oper} {a:Act} {K:Act→World→Prop} {Q:Exit→Act→World→Prop} (s x:Operand) (t:TypeId)
  (ho:o.op=.call { callee:=.builtin .append,args:=#[s,x],argTypes:=#[t,t] })
  (base:Nat) (e:TypeId) (i:TypeInfo) (z:Value) (size bytes:Nat) (ht:P.underlying t=some (.slice e)) (hi:P.info? e=some i) (hz:i.zero=some z)
  (hsize:i.size=size) (hby:i.bytes=bytes) (hzs:z.cells.size=size) (hsz:0<size)
  (v:Value) (n:Nat) (xs:List Value) (hs:a.eval s=v) (hown:w.ownsRow base e size v n xs)
  (ad:Addr) (m c:Nat) (news:List Value) (hx:a.eval x=.slice (some ad) m c) (hl:news.length=m*size) (hnews:∀ j u,news[j]?=some u→w.cell? (ad.add j)=some u) (h1:∀ u∈news,u.oneCell'=true)
  (h63:n+m≤maxLen) (hbytes:(n+m)*bytes≤140737488355328) (hbase:base≤w.heap.size)
  (h:∀ v' w',w'.ownsRow base e size v' (n+m) (xs++news)→w.grownBy w' v.ownBlock→(v'.ownBlock=v.ownBlock∨v'.ownBlock=some w.heap.size)→K (a.put o.dst v') w'):Oper.wp P o a w K Q:=by
 obtain⟨v',w',hr,h2,h3,_,h5⟩:=run_append_own_at (P:=P) w base t o.type e i z size bytes ht hi hz hsize hby hzs hsz v n xs hown ad m c news hl hnews h1 h63 hbytes hbase
 unfold Oper.wp execOp
 simp only[ho,resolve,invoke,builtin,Sem.run_bind,Sem.run_pure,Result.andThen_ok,List.map_toArray,List.map_cons,List.map_nil,hs,hx,hr]
 exact h v' w' h2 h3 h5
theorem cm {P:Program} {w:World} {ops:Array Oper} {rest:List Oper} {o:Oper} {a:Act} {Q:Exit→Act→World→Prop} (hw:Region.wanted o (yielded ops a.tmps)=true) (s x:Operand) (t:TypeId)
  (ho:o.op=.call { callee:=.builtin .append,args:=#[s,x],argTypes:=#[t,t] })
  (base:Nat) (e:TypeId) (i:TypeInfo) (z:Value) (size bytes:Nat) (ht:P.underlying t=some (.slice e)) (hi:P.info? e=some i) (hz:i.zero=some z)
  (hsize:i.size=size) (hby:i.bytes=bytes) (hzs:z.cells.size=size) (hsz:0<size)
  (v:Value) (n:Nat) (xs:List Value) (hs:a.eval s=v) (hown:w.ownsRow base e size v n xs)
  (vx:Value) (m:Nat) (ys:List Value) (hx:a.eval x=vx) (hsrc:Src w vx m size ys) (h1:∀ u∈ys,u.oneCell'=true)
  (h63:n+m≤maxLen) (hbytes:(n+m)*bytes≤140737488355328) (hbase:base≤w.heap.size)
  (h:∀ v' w',w'.ownsRow base e size v' (n+m) (xs++ys)→w.grownBy w' v.ownBlock→(v'.ownBlock=v.ownBlock∨v'.ownBlock=some w.heap.size)→wpList P ops Q rest (a.put o.dst v') w'):wpList P ops Q (o :: rest) a w:=by
 refine wpList_step fun K hK=>?_
 rw[if_pos hw]
 obtain⟨p,c,e1,hl,hc⟩:=hsrc
 subst e1
 by_cases h0:m=0
 ·subst h0
  have hy:ys=[]:=List.length_eq_zero_iff.1 (by omega)
  subst hy
  cases p with
  | none =>
   have hx2:a.eval x=.slice none 0 c:=hx
   have hrun:(Builtin.append_ #[t,t] o.type #[v,.slice none 0 c]).run P w=.ok v w:=by
    have:=run_append_owned_none (P:=P) (w:=w) base t o.type e i size ht hi v n xs hown
    exact this
   unfold Oper.wp
   simp[execOp,ho,resolve,invoke,builtin,hs,hx2,hrun,Result.andThen]
   exact hK _ _ (h v w (by rw[List.append_nil];exact hown) (aq _ _) (Or.inl rfl))
  | some ad =>
   exact fb s x t ho base e i z size bytes ht hi hz hsize hby hzs hsz v n xs hs hown ad 0 c [] hx (by simp) (fun j u hu=>by simp at hu) h1 h63 hbytes hbase (fun v' w' h2 h3 h4=>hK _ _ (h v' w' h2 h3 h4))
 ·obtain⟨ad,e2,hcell⟩:=hc (by omega)
  subst e2
  exact fb s x t ho base e i z size bytes ht hi hz hsize hby hzs hsz v n xs hs hown ad m c ys hx hl hcell h1 h63 hbytes hbase (fun v' w' h2 h3 h4=>hK _ _ (h v' w' h2 h3 h4))
theorem Tryz.linfoF:(Tryz.prog.info? 65).map (fun i=>(i.zero,i.size,i.bytes))=some (some (.agg #[.int .i64 0,.int .u8 0,.int .u16 0,.int .i64 0,.int .i64 0]),5,32):=by kernel_rfl
def bO (w:World) (base:Nat) (v:Value) (fs:List Fe):Prop:=feR.Own 65 w base v fs
theorem de (w:World) (r:Option Nat):w.grownBy w.drew r:=⟨rfl,rfl,rfl,Nat.le_refl _,fun _ _ _=>rfl⟩
theorem eJ {a b:World} (h:a.grownBy b none) (r:Option Nat):a.grownBy b r:=⟨h.os,h.tape,h.output,h.size,fun i hi _=>h.block i hi (by simp)⟩
theorem mj (R:List Rw) (F:List Fe) (s:Se):(bp R F s).length=F.length:=by simp[bp]
theorem iL.applied {w w':World} {vr vf vf':Value} {X:List Rv} {F:List Fe} {base:Nat} (T:iL w vr vf X F) (g:w.grownBy w' none) (s:Se) (o:bO w' base vf' (bp (rws X) F s)):iL w' vr vf' X (bp (rws X) F s) :=
 ⟨T.rows.keep g,fun x hx=>⟨(T.parts x hx).1.keep g,(T.parts x hx).2⟩,o.at,by rw[mj];exact T.len,T.few⟩
theorem mM {p:Nat→Bool}:∀ (n k:Nat),k<n→(∀ i,i<k→p i=false)→p k=true→(List.range n).find? p=some k
 | n+1,k,hk,hn,hp=>by
  rw[List.range_succ,List.find?_append]
  by_cases h:k<n
  ·rw[mM n k h hn hp]
   rfl
  ·have:k=n:=by omega
   subst this
   rw[List.find?_eq_none.2 (fun x hx=>by rw[hn x (List.mem_range.1 hx)];simp)]
   simp[hp]
theorem B3 {R:List Rw} {F:List Fe} {L:List Se} {k:Nat} (hk:k<L.length) (hn:∀ i,i<k→dy R F L i=false) (hp:dy R F L k=true):dP R F L=k:=by
 unfold dP
 rw[mM _ k hk hn hp]
 rfl
theorem un {R:List Rw} {F:List Fe} {L:List Se} (hn:∀ i,i<L.length→dy R F L i=false):dP R F L=0:=by
 unfold dP
 rw[List.find?_eq_none.2 (fun x hx=>by rw[hn x (List.mem_range.1 hx)];simp)]
 rfl
theorem Bk {R:List Rw} {F:List Fe} {L:List Se} (h:L≠[]):dP R F L<L.length:=by
 have h0:0<L.length:=List.length_pos_iff.2 h
 unfold dP
 cases hf:(List.range L.length).find? (dy R F L) with
 | none=>exact h0
 | some k=>exact List.mem_range.1 (List.mem_of_find?_eq_some hf)
theorem aw {α:Type} {l:List α} {i:Nat} {d:α} (h:i<l.length):l.getD i d=l[i]:=by rw[List.getD_eq_getElem?_getD,List.getElem?_eq_getElem h];rfl
theorem SeAt.there {w:World} {v:Value} {L:List Se} (h:seR.At w v L) {i:Nat} (hi:i<L.length):∃ g off cap,v=.slice (some ⟨g,off,none⟩) L.length cap∧w.rangeAt g (off+i*11) (sec (L.getD i Se.none)):=by
 rw[aw hi]
 exact ay.At.there h hi
theorem kO {j:Nat} (h:j≤4096):IntKind.i64.wrap (j:Int)=(j:Int):=IntWalk.i64_in _ (by omega)
theorem ls {j:Nat} (h:j≤4096):wrap64 (j:Int)=(j:Int):=by unfold wrap64;omega
theorem aK {k:Nat} (h:k≤4096):wrap64 ((k:Int)+1)=(k:Int)+1:=by unfold wrap64;omega
theorem jZ (fs:List Fe) (R:List Rw) (F:List Fe) (k:Nat):qO fs R F (k+1)=(qO fs R F k).set ((R.getD k Rw.none).nu - 1).toNat (F.getD k Fe.none):=by
 unfold qO
 rw[List.range_succ,List.foldl_append]
 rfl
theorem lK (fs:List Fe) (R:List Rw) (F:List Fe):∀ k,(qO fs R F k).length=fs.length
 | 0=>rfl
 | k+1=>by rw[jZ,List.length_set,lK fs R F k]
end Go.Proofs.YthfjgpjcepmnmaaGreat
