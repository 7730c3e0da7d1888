import Derived.Test.YthfjgpjcepmnmaaGreatSwJ
import Derived.Test.YthfjgpjcepmnmaaGreatO0
import Derived.Test.YthfjgpjcepmnmaaGreatO25
import Derived.Test.YthfjgpjcepmnmaaGreatO31
namespace Go.Proofs.YthfjgpjcepmnmaaGreat
set_option maxRecDepth 100000
set_option maxHeartbeats 4000000
open Go.RowKit Go.Shelf
def kA (s o:Sd):Bool:=decide (o.th=s.th) && decide (o.pl=s.pl)
theorem D1 (s o:Sd) (b:Nat) (w:World) (S:SdB w b s):Calls Tryz.prog 210 #[.agg (sdc o).toArray,.pointer (some ⟨b,0,none⟩)] w fun e w'=>e=.returned (.bool (kA s o))∧w.grownBy w' none:=by
 obtain⟨V,hV⟩:∃ V,V=w.alloc (.cells #[.int .i64 o.th,.int .i64 o.pl,.int .u8 o.wh.wn,.int .u8 o.wh.vb,.int .u8 o.wh.wm,.int .i64 o.wh.ct,.int .u8 o.wh.su,.int .u8 o.wh.tr,.int .u8 o.wh.mr,.string o.wh.nm] 40):=⟨_,rfl⟩
 have HG:Hid (w.grownBy V none):=by rw[hV];exact World.grownBy_alloc _ _ none
 have HO:Hid (SdB V w.heap.size o):=by rw[hV];exact ai w _ _
 have HS:Hid (SdB V b s):=ae HG.out S (by simp)
 unfold sdc
 clear S
 go_enter Tryz.func210,Tryz.ntmps210
 go_upto_region 1 with fail
 rw[←hV]
 clear hV
 obtain⟨n0,hn0⟩:∃ n0,n0=w.heap.size:=⟨_,rfl⟩
 simp only[←hn0] at HO ⊢
 clear hn0
 obtain⟨s0,s1,-⟩:=aT HS.out
 obtain⟨o0,o1,-⟩:=aT HO.out
 by_cases h1:o.th=s.th
 ·have k1:(o.th == s.th)=true:=by rw[h1];exact beq_self_eq_true _
  have HR:Hid (kA s o=(o.pl == s.pl)):=by show _=_;unfold kA;rw[decide_eq_true h1,Bool.true_and,dB]
  clear h1
  go_wp2
  go_ret
  exact⟨aJ HR.out.symm,HG.out⟩
 ·have k1:(o.th == s.th)=false:=by simpa using h1
  have HR:Hid (kA s o=false):=by show _=_;unfold kA;rw[decide_eq_false h1,Bool.false_and]
  clear h1
  go_wp2
  go_ret
  exact⟨aJ HR.out.symm,HG.out⟩
theorem xJ (p:Option Addr) (c:Nat) (fv:Value) (w:World):Calls Tryz.prog 267 #[.slice p 0 c,fv] w fun e w'=>e=.returned (.int .i64 (-1))∧w'=w:=by
 go_enter Tryz.func267,Tryz.ntmps267
 go_wp2_with fail
 refine wp_loop_rounds 1 ?_
 rw[rounds_succ]
 go_wp2
 go_ret
 exact⟨rfl,rfl⟩
theorem xE (p:Option Addr) (c:Nat) (fv:Value) (w:World):Calls Tryz.prog 209 #[.slice p 0 c,fv] w fun e w'=>e=.returned (.bool false)∧w'=w:=by
 have C:=xJ p c fv w
 go_enter Tryz.func209,Tryz.ntmps209
 go_wp2_with fail
 refine C.mono ?_
 rintro e1 w1 ⟨rfl,rfl⟩
 go_wp2_with fail
 go_ret
 exact⟨rfl,rfl⟩
theorem zl (v:Value) (S:List Sd) (n:Nat) (s:Sd) (w:World) (A:sdR.At w v S) (c:SdB w n s):Calls Tryz.prog 209 #[v,.func (.func 210) #[] #[.pointer (some ⟨n,0,none⟩)]] w fun e w'=>e=.returned (.bool (gB S s))∧w.grownBy w' none:=by
 by_cases h0:S.length=0
 ·have e1:S=[]:=List.length_eq_zero_iff.1 h0
  subst e1
  obtain⟨p,cap,rfl⟩:=A.form
  refine(xE p cap _ w).mono ?_
  rintro e w' ⟨rfl,rfl⟩
  exact⟨rfl,aq _ _⟩
 ·obtain⟨p,cap,e1,hmx,hA⟩:=A
  obtain⟨g,off,e2,hR⟩:=hA (Nat.pos_of_ne_zero h0)
  subst e2
  subst e1
  haveI:Inhabited Sd:=⟨Sd.none⟩
  have eg:∀ args w,(callFunc 210 args).run Tryz.prog w=.ok (.enter 210 args) w:=enters_of Tryz.func210 (by kernel_rfl) rfl
  have hb:g<w.heap.size:=World.block_lt_of_cell? _ _ (bu (hR 0 S[0] (List.getElem?_eq_getElem (Nat.pos_of_ne_zero h0)))).1
  have hS:=AnyQ.slices_ContainsFunc Tryz.cntD 10 Tryz.isAgg40 Tryz.sizeOf40 sdc (fun _=>rfl) (fun y=>kA s y) 210 #[.pointer (some ⟨n,0,none⟩)] eg g off S.length cap S w
   (fun W x hW=>(D1 s x n W (by have:=hW.block n (bf c);show W.heap[n]?=_;rw[this];exact c)).mono fun e w' q=>⟨q.1,hW.trans ((iD q.2).mono hW.size)⟩)
   (Nat.le_refl _) (by unfold maxLen at hmx;omega) hb (fun j hj i u hu=>by
    have q:=hR j S[j] (List.getElem?_eq_getElem hj) i u
    rw[show S[j]! = S[j] from by simp[hj]] at hu
    exact q hu)
  change Calls Tryz.prog 209 _ _ _ at hS
  refine hS.mono ?_
  rintro e w' ⟨rfl,hb'⟩
  refine⟨aJ ?_,⟨hb'.os,hb'.tape,hb'.output,hb'.size,fun k hk _=>hb'.block k hk⟩⟩
  rw[List.take_length]
  rfl
theorem qn (v:Value) (S:List Sd) (s:Sd) (w:World) (A:sdR.At w v S):Calls Tryz.prog 150 #[v,sdv s] w fun e w'=>e=.returned (.bool (gB S s))∧w.grownBy w' none:=by
 have hmf:∀ (fn:Fn) (first cap:Array Value) (w:World),(Instr.makeFunc fn first cap).run Tryz.prog w=.ok (.func fn first cap) w:=fun _ _ _ _=>rfl
 obtain⟨V,hV⟩:∃ V,V=w.alloc (.cells #[.int .i64 s.th,.int .i64 s.pl,.int .u8 s.wh.wn,.int .u8 s.wh.vb,.int .u8 s.wh.wm,.int .i64 s.wh.ct,.int .u8 s.wh.su,.int .u8 s.wh.tr,.int .u8 s.wh.mr,.string s.wh.nm] 40):=⟨_,rfl⟩
 have HG:Hid (w.grownBy V none):=by rw[hV];exact World.grownBy_alloc _ _ none
 have HS:Hid (SdB V w.heap.size s):=by rw[hV];exact ai w _ _
 have C:=zl v S w.heap.size s V (A.keep HG.out) HS.out
 obtain⟨pv,cv,rfl⟩:=A.form
 unfold sdv
 clear A
 go_enter Tryz.func150,Tryz.ntmps150
 go_upto_region 1 with fail
 rw[←hV]
 clear hV
 go_wp2_with fail
 refine C.mono ?_
 rintro e1 w1 ⟨rfl,g1⟩
 have HG1:Hid (V.grownBy w1 none):=g1
 clear C g1
 go_wp2_with fail
 go_ret
 exact⟨rfl,aa HG.out HG1.out⟩
end Go.Proofs.YthfjgpjcepmnmaaGreat
namespace Go.Proofs.YthfjgpjcepmnmaaGreat
set_option maxRecDepth 100000
set_option maxHeartbeats 4000000
open Go.RowKit
theorem bK (b:World) (c:Nat) (v0 v1 v2 v3 v4 v5 v6 v7 v8 v9:Value):b.grownBy ((((((((((b.setCell ⟨c,0,none⟩ v0).setCell ⟨c,1,none⟩ v1).setCell ⟨c,2,none⟩ v2).setCell ⟨c,3,none⟩ v3).setCell ⟨c,4,none⟩ v4).setCell ⟨c,5,none⟩ v5).setCell ⟨c,6,none⟩ v6).setCell ⟨c,7,none⟩ v7).setCell ⟨c,8,none⟩ v8).setCell ⟨c,9,none⟩ v9) (some c):=((((((((((aj _ _ _ _).trans (aj _ _ _ _)).trans (aj _ _ _ _)).trans (aj _ _ _ _)).trans (aj _ _ _ _)).trans (aj _ _ _ _)).trans (aj _ _ _ _)).trans (aj _ _ _ _)).trans (aj _ _ _ _)).trans (aj _ _ _ _))
theorem sz {a b:World} {c:Nat} (h:a.grownBy b none) (hc:a.heap.size≤c) (v0 v1 v2 v3 v4 v5 v6 v7 v8 v9:Value):a.grownBy ((((((((((b.setCell ⟨c,0,none⟩ v0).setCell ⟨c,1,none⟩ v1).setCell ⟨c,2,none⟩ v2).setCell ⟨c,3,none⟩ v3).setCell ⟨c,4,none⟩ v4).setCell ⟨c,5,none⟩ v5).setCell ⟨c,6,none⟩ v6).setCell ⟨c,7,none⟩ v7).setCell ⟨c,8,none⟩ v8).setCell ⟨c,9,none⟩ v9) none:=am h (bK b c v0 v1 v2 v3 v4 v5 v6 v7 v8 v9) (fun y e=>by cases e;exact hc)
theorem fO {b:World} {c:Nat} {x:Sd} (s:Sd) (H:SdB b c x):SdB ((((((((((b.setCell ⟨c,0,none⟩ (.int .i64 s.th)).setCell ⟨c,1,none⟩ (.int .i64 s.pl)).setCell ⟨c,2,none⟩ (.int .u8 s.wh.wn)).setCell ⟨c,3,none⟩ (.int .u8 s.wh.vb)).setCell ⟨c,4,none⟩ (.int .u8 s.wh.wm)).setCell ⟨c,5,none⟩ (.int .i64 s.wh.ct)).setCell ⟨c,6,none⟩ (.int .u8 s.wh.su)).setCell ⟨c,7,none⟩ (.int .u8 s.wh.tr)).setCell ⟨c,8,none⟩ (.int .u8 s.wh.mr)).setCell ⟨c,9,none⟩ (.string s.wh.nm)) c s:=by
 unfold SdB at H ⊢
 have h0:=ar H 0 (.int .i64 s.th)
 have h1:=ar h0 1 (.int .i64 s.pl)
 have h2:=ar h1 2 (.int .u8 s.wh.wn)
 have h3:=ar h2 3 (.int .u8 s.wh.vb)
 have h4:=ar h3 4 (.int .u8 s.wh.wm)
 have h5:=ar h4 5 (.int .i64 s.wh.ct)
 have h6:=ar h5 6 (.int .u8 s.wh.su)
 have h7:=ar h6 7 (.int .u8 s.wh.tr)
 have h8:=ar h7 8 (.int .u8 s.wh.mr)
 have h9:=ar h8 9 (.string s.wh.nm)
 simp only[List.setIfInBounds_toArray,List.set_cons_zero,List.set_cons_succ] at h9
 exact h9
def hpa (h:Hp):Array Value:=#[.int .u8 h.vb,.int .i64 h.on,.int .i64 h.ct,.int .i64 h.ho,.bool h.vn,.bool h.dr]
def sda (s:Sd):Array Value:=#[.int .i64 s.th,.int .i64 s.pl,.int .u8 s.wh.wn,.int .u8 s.wh.vb,.int .u8 s.wh.wm,.int .i64 s.wh.ct,.int .u8 s.wh.su,.int .u8 s.wh.tr,.int .u8 s.wh.mr,.string s.wh.nm]
theorem oM {a b c:Nat} (h:b≤a) (h':c<b):a≠c:=by omega
theorem pE {w:World} {g:Nat} (h:SdB w g Sd.none):w.cell? ⟨g,0,none⟩=some (.int .i64 0)∧w.cell? ⟨g,1,none⟩=some (.int .i64 0)∧w.cell? ⟨g,2,none⟩=some (.int .u8 0)∧w.cell? ⟨g,3,none⟩=some (.int .u8 0)∧w.cell? ⟨g,4,none⟩=some (.int .u8 0)∧w.cell? ⟨g,5,none⟩=some (.int .i64 0)∧w.cell? ⟨g,6,none⟩=some (.int .u8 0)∧w.cell? ⟨g,7,none⟩=some (.int .u8 0)∧w.cell? ⟨g,8,none⟩=some (.int .u8 0)∧w.cell? ⟨g,9,none⟩=some (.string ⟨#[]⟩):=aT h
def AD (F:List Fe) (s:Sd):Prop:=∃ (z:Nat) (g:Fe),s.th=(z:Int)+1∧F[z]?=some g∧(g.ho=0∨g.ho=1)∧16≤s.wh.vb∧s.wh.vb≤19
structure NIn (w:World) (bv vt vf vl:Value) (n:Int) (cd:Int→Hd×List Pt) (ts:List Th) (F:List Fe) (L:List Sd):Prop where
 at1:thR.At w vt ts
 at2:feR.At w vf F
 at3:sdR.At w vl L
 card:je w bv n cd
 len:ts.length=F.length
 few:ts.length≤2048
 be:∀ (j:Nat) t,ts[j]?=some t→1≤t.card∧t.card≤n
 ok:∀ s∈L,AD F s
theorem NIn.keep {w w':World} {bv vt vf vl:Value} {n:Int} {cd:Int→Hd×List Pt} {ts:List Th} {F:List Fe} {L:List Sd} (h:NIn w bv vt vf vl n cd ts F L) (q:w.grownBy w' none):NIn w' bv vt vf vl n cd ts F L:=⟨h.at1.keep q,h.at2.keep q,h.at3.keep q,h.card.keep q,h.len,h.few,h.be,h.ok⟩
theorem NIn.one {w:World} {bv vt vf vl:Value} {n:Int} {cd:Int→Hd×List Pt} {ts:List Th} {F:List Fe} {L:List Sd} {s:Sd} (h:NIn w bv vt vf vl n cd ts F L) (hs:AD F s):∃ z g,AIn w bv vt vf n cd ts F s z g∧g.ho=hoN F s.th∧16≤s.wh.vb∧s.wh.vb≤19:=by
 obtain⟨z,g,a,b,c,d,e⟩:=hs
 exact⟨z,g,⟨h.at1,h.at2,h.card,a,b,c,h.len,h.few,h.be⟩,(qL a b).symm,d,e⟩
def ia (F:List Fe) (s:Sd) (h:Hp):Hp:=ip s (hoN F s.th) h
def tz (F:List Fe) (h:Hp):Option Sd→Hp
 | none=>Hp.none
 | some s=>ia F s h
def yO:Option Sd→Sd
 | none=>Sd.none
 | some s=>s
theorem sq {p:Sd→Bool} {L:List Sd} {k:Nat} {s:Sd} (h:(L.take k).find? p=none) (hs:L[k]?=some s) (hp:p s=false):(L.take (k+1)).find? p=none:=by
 rw[List.take_add_one,hs,List.find?_append,h]
 simp[hp]
theorem xe {p:Sd→Bool} {L:List Sd} {k:Nat} {s:Sd} (h:(L.take k).find? p=none) (hs:L[k]?=some s) (hp:p s=true):L.find? p=some s:=by
 have hk:=(List.getElem?_eq_some_iff.1 hs)
 obtain⟨hk1,hk2⟩:=hk
 rw[←List.take_append_drop k L,List.find?_append,h,List.drop_eq_getElem_cons hk1,hk2]
 simp[hp]
theorem Aj {k n:Nat} (h:k<n) (hn:n≤maxLen):wrap64 ((k:Int)+1)=(k:Int)+1:=by unfold maxLen at hn;unfold wrap64;omega
theorem nU (bv vt vf vl vu:Value) (n:Int) (cd:Int→Hd×List Pt) (ts:List Th) (F:List Fe) (L S:List Sd) (h:Hp) (w:World) (I:NIn w bv vt vf vl n cd ts F L) (AU:sdR.At w vu S) (hm:bw ts h=true):Calls Tryz.prog 81 #[ch bv vt vf vl,hpv h,vu] w fun e w'=>e=.returned (.tuple #[hpv (tz F h (fl cd ts F L h S)),sdv (yO (fl cd ts F L h S)),.bool (fl cd ts F L h S).isSome])∧w.grownBy w' none:=by
 obtain⟨pt,ct,rfl⟩:=I.at1.form
 obtain⟨pf,cf,rfl⟩:=I.at2.form
 obtain⟨pl,cl,rfl⟩:=I.at3.form
 obtain⟨pu,cu,rfl⟩:=AU.form
 have HLn:Hid (L.length≤maxLen):=by obtain⟨_,_,_,q,_⟩:=I.at3;exact q
 obtain⟨A0,hA0⟩:∃ A0,A0=w.alloc (.cells #[bv,.slice pt ts.length ct,.slice pf F.length cf,.slice pl L.length cl] 136):=⟨_,rfl⟩
 obtain⟨A1,hA1⟩:∃ A1,A1=A0.alloc (.cells #[.int .u8 h.vb,.int .i64 h.on,.int .i64 h.ct,.int .i64 h.ho,.bool h.vn,.bool h.dr] 43):=⟨_,rfl⟩
 obtain⟨A2,hA2⟩:∃ A2,A2=A1.alloc (.cells #[.int .u8 0,.int .i64 0,.int .i64 0,.int .i64 0,.bool false,.bool false] 43):=⟨_,rfl⟩
 obtain⟨V,hV⟩:∃ V,V=A2.alloc (.cells #[.int .i64 0,.int .i64 0,.int .u8 0,.int .u8 0,.int .u8 0,.int .i64 0,.int .u8 0,.int .u8 0,.int .u8 0,.string ⟨#[]⟩] 40):=⟨_,rfl⟩
 have g0:w.grownBy A0 none:=by rw[hA0];exact World.grownBy_alloc _ _ none
 have g1:A0.grownBy A1 none:=by rw[hA1];exact World.grownBy_alloc _ _ none
 have g2:A1.grownBy A2 none:=by rw[hA2];exact World.grownBy_alloc _ _ none
 have g3:A2.grownBy V none:=by rw[hV];exact World.grownBy_alloc _ _ none
 have e0:A0.heap.size=w.heap.size+1:=by rw[hA0,World.size_alloc]
 have e1:A1.heap.size=w.heap.size+1+1:=by rw[hA1,World.size_alloc,e0]
 have e2:A2.heap.size=w.heap.size+1+1+1:=by rw[hA2,World.size_alloc,e1]
 have HG:Hid (w.grownBy V none):=aa (aa (aa g0 g1) g2) g3
 have HC:Hid (bY V w.heap.size bv (.slice pt ts.length ct) (.slice pf F.length cf) (.slice pl L.length cl)):=ae (aa (aa g1 g2) g3) (by rw[hA0];exact ai w _ _) (by simp)
 have HH:Hid (HpB V (w.heap.size+1) h):=ae (aa g2 g3) (by rw[←e0,hA1];exact ai _ _ _) (by simp)
 have HZ:Hid (HpB V (w.heap.size+1+1) Hp.none):=ae g3 (by rw[←e1,hA2];exact ai _ _ _) (by simp)
 have HY:Hid (SdB V (w.heap.size+1+1+1) Sd.none):=by rw[←e2,hV];exact ai _ _ _
 have HI:Hid (NIn V bv (.slice pt ts.length ct) (.slice pf F.length cf) (.slice pl L.length cl) n cd ts F L∧sdR.At V (.slice pu S.length cu) S∧bw ts h=true):=⟨I.keep HG.out,AU.keep HG.out,hm⟩
 have hV':V=(((w.alloc (.cells #[bv,.slice pt ts.length ct,.slice pf F.length cf,.slice pl L.length cl] 136)).alloc (.cells #[.int .u8 h.vb,.int .i64 h.on,.int .i64 h.ct,.int .i64 h.ho,.bool h.vn,.bool h.dr] 43)).alloc (.cells #[.int .u8 0,.int .i64 0,.int .i64 0,.int .i64 0,.bool false,.bool false] 43)).alloc (.cells #[.int .i64 0,.int .i64 0,.int .u8 0,.int .u8 0,.int .u8 0,.int .i64 0,.int .u8 0,.int .u8 0,.int .u8 0,.string ⟨#[]⟩] 40):=by rw[hV,hA2,hA1,hA0]
 unfold ch hpv
 clear I AU hm hA0 hA1 hA2 hV g0 g1 g2 g3 e0 e1 e2
 go_enter Tryz.func81,Tryz.ntmps81
 go_upto_region 1 with fail
 rw[←hV']
 clear hV'
 obtain⟨n0,hn0⟩:∃ n0,n0=w.heap.size:=⟨_,rfl⟩
 have Hn0:Hid (w.heap.size≤n0):=by rw[hn0];exact Nat.le_refl _
 simp only[←hn0] at HC HH HZ HY ⊢
 obtain⟨n1,hn1⟩:∃ n1,n1=n0+1:=⟨_,rfl⟩
 simp only[←hn1] at HH HZ HY ⊢
 obtain⟨n2,hn2⟩:∃ n2,n2=n1+1:=⟨_,rfl⟩
 simp only[←hn2] at HZ HY ⊢
 obtain⟨n3,hn3⟩:∃ n3,n3=n2+1:=⟨_,rfl⟩
 simp only[←hn3] at HY ⊢
 have Hne:Hid ((n0≠n2∧n0≠n3∧n1≠n2∧n1≠n3∧n2≠n3)∧w.heap.size≤n2∧w.heap.size≤n3∧n3<V.heap.size∧n2<V.heap.size):=⟨⟨by omega,by omega,by omega,by omega,by omega⟩,by have:=Hn0.out;omega,by have:=Hn0.out;omega,bf HY.out,bf HZ.out⟩
 clear hn0 hn1 hn2 hn3
 obtain⟨c0,c1,c2,c3⟩:=aR HC.out
 obtain⟨x0,x1,x2,x3,x4,x5⟩:=aL HH.out
 go_wp2_with fail
 go_loopw [14] (fun i wr=>∃ k:Nat,k≤L.length∧i=.int .i64 (k:Int)∧Hid ((L.take k).find? (nG cd ts F h S)=none∧V.grownBy wr none)) (fun i _=>L.length - (intOf i).toNat)
 case atStart=>exact⟨0,Nat.zero_le _,rfl,rfl,aq _ _⟩
 case round =>
  obtain⟨k,hk',rfl,HK⟩:=hrel
  obtain⟨U,hU⟩:∃ U,U=wr:=⟨_,rfl⟩
  subst hU
  by_cases hlt:k<L.length
  ·have i1:(k:Int)<(L.length:Int):=Int.ofNat_lt.2 hlt
   have hwk:=Aj (k:=k) hlt HLn.out
   have HM:Hid (L.length - (intOf (.int .i64 ((k:Int)+1))).toNat<L.length - (intOf (.int .i64 (k:Int))).toNat):=bF hlt
   obtain⟨s,hs⟩:∃ s,L[k]?=some s:=⟨_,List.getElem?_eq_getElem hlt⟩
   obtain⟨gL,oL,cL,eL,-⟩:=dU HI.out.1.at3 hlt
   injection eL with eL eL2 eL3
   clear eL2 eL3
   subst eL
   obtain⟨d0,d1,d2,d3,d4,d5,d6,d7,d8,d9⟩:=bu (dm (HI.out.1.at3.keep HK.out.2) hs)
   have c0:=HK.out.2.cell c0 (by simp)
   have c1:=HK.out.2.cell c1 (by simp)
   have c2:=HK.out.2.cell c2 (by simp)
   have c3:=HK.out.2.cell c3 (by simp)
   obtain⟨X,hX⟩:∃ X,X=U.alloc (.cells #[.int .i64 s.th,.int .i64 s.pl,.int .u8 s.wh.wn,.int .u8 s.wh.vb,.int .u8 s.wh.wm,.int .i64 s.wh.ct,.int .u8 s.wh.su,.int .u8 s.wh.tr,.int .u8 s.wh.mr,.string s.wh.nm] 40):=⟨_,rfl⟩
   have HX:Hid (SdB X U.heap.size s∧V.grownBy X none∧V.heap.size≤U.heap.size):=⟨by rw[hX];exact ai _ _ _,by rw[hX];exact ak HK.out.2 _,HK.out.2.size⟩
   obtain⟨z,g,hA,hgo,hv1,hv2⟩:=(HI.out.1.keep HX.out.2.1).one (HI.out.1.ok s (List.mem_of_getElem? hs))
   have Hs:Hid (L[k]?=some s∧k+1≤L.length∧(L.take k).find? (nG cd ts F h S)=none):=⟨hs,hlt,HK.out.1⟩
   have CA:=qn (.slice pu S.length cu) S s X (HI.out.2.1.keep HX.out.2.1)
   have CS:∀ Y,X.grownBy Y none→Calls Tryz.prog 88 #[ch bv (.slice pt ts.length ct) (.slice pf F.length cf) (.slice (some ⟨gL,oL,none⟩) L.length cl),sdv s,hpv h] Y fun e w'=>e=.returned (.bool (jk cd ts F s h))∧Y.grownBy w' none:=fun Y q=>lH bv _ _ _ n cd ts F s z g h Y (hA.keep q) HI.out.2.2
   have CB:∀ Y,X.grownBy Y none→Calls Tryz.prog 151 #[ch bv (.slice pt ts.length ct) (.slice pf F.length cf) (.slice (some ⟨gL,oL,none⟩) L.length cl),hpv h,sdv s] Y fun e w'=>e=.returned (hpv (ia F s h))∧Y.grownBy w' none:=fun Y q=>by unfold ia;rw[←hgo];exact sw bv _ _ _ n cd ts F s z g h Y (hA.keep q) ⟨hv1,hv2⟩
   unfold sdv at CA
   unfold ch sdv hpv at CS CB
   clear hk' hlt hs HK hA hgo hv1 hv2
   go_upto_region 4 with fail
   rw[←hX]
   obtain⟨n4,hn4⟩:∃ n4,n4=U.heap.size:=⟨_,rfl⟩
   rw[←hn4] at HX ⊢
   clear hX hn4 d0 d1 d2 d3 d4 d5 d6 d7 d8 d9
   have c0:=HX.out.2.1.cell (aR HC.out).1 (by simp)
   have c1:=HX.out.2.1.cell (aR HC.out).2.1 (by simp)
   have c2:=HX.out.2.1.cell (aR HC.out).2.2.1 (by simp)
   have c3:=HX.out.2.1.cell (aR HC.out).2.2.2 (by simp)
   obtain⟨d0,d1,d2,d3,d4,d5,d6,d7,d8,d9⟩:=aT HX.out.1
   obtain⟨a,ha⟩:∃ a,a=gB S s:=⟨_,rfl⟩
   have Ha:Hid (a=gB S s):=ha
   rw[←ha] at CA
   clear ha
   go_wp2_with fail
   refine CA.mono ?_
   rintro e1 w1 ⟨rfl,g1⟩
   have H1:Hid (X.grownBy w1 none∧V.grownBy w1 none):=⟨g1,aa HX.out.2.1 g1⟩
   clear CA g1 c0 c1 c2 c3 d0 d1 d2 d3 d4 d5 d6 d7 d8 d9
   cases a with
   | true =>
    have HN:Hid ((L.take (k+1)).find? (nG cd ts F h S)=none):=sq Hs.out.2.2 Hs.out.1 (by unfold nG;rw[←Ha.out];rfl)
    go_wp2_with fail
    go_roundw
    case rel=>exact⟨k+1,Hs.out.2.1,by first | rfl | (rw[hwk];rfl) | go_num,HN.out,H1.out.2⟩
    case measure=>first | exact HM.out | (rw[hwk];exact HM.out)
   | false =>
    have HC1:Hid (bY w1 n0 bv (.slice pt ts.length ct) (.slice pf F.length cf) (.slice (some ⟨gL,oL,none⟩) L.length cl)):=ae H1.out.2 HC.out (by simp)
    have HH1:Hid (HpB w1 n1 h):=ae H1.out.2 HH.out (by simp)
    have HS1:Hid (SdB w1 n4 s):=ae H1.out.1 HX.out.1 (by simp)
    obtain⟨c0,c1,c2,c3⟩:=aR HC1.out
    obtain⟨x0,x1,x2,x3,x4,x5⟩:=aL HH1.out
    obtain⟨d0,d1,d2,d3,d4,d5,d6,d7,d8,d9⟩:=aT HS1.out
    have CS1:=CS w1 H1.out.1
    obtain⟨b,hb⟩:∃ b,b=jk cd ts F s h:=⟨_,rfl⟩
    have Hb:Hid (nG cd ts F h S s=b):=by show _=_;unfold nG;rw[←Ha.out,hb];rfl
    rw[←hb] at CS1
    clear hb CS
    go_wp2_with fail
    refine CS1.mono ?_
    rintro e2 w2 ⟨rfl,g2⟩
    have H2:Hid (X.grownBy w2 none∧V.grownBy w2 none):=⟨aa H1.out.1 g2,aa H1.out.2 g2⟩
    clear CS1 g2 c0 c1 c2 c3 d0 d1 d2 d3 d4 d5 d6 d7 d8 d9 x0 x1 x2 x3 x4 x5
    cases b with
    | false =>
     have HN:Hid ((L.take (k+1)).find? (nG cd ts F h S)=none):=sq Hs.out.2.2 Hs.out.1 Hb.out
     go_wp2_with fail
     go_roundw
     case rel=>exact⟨k+1,Hs.out.2.1,by first | rfl | (rw[hwk];rfl) | go_num,HN.out,H2.out.2⟩
     case measure=>first | exact HM.out | (rw[hwk];exact HM.out)
    | true =>
     have HF:Hid (fl cd ts F L h S=some s):=xe Hs.out.2.2 Hs.out.1 Hb.out
     have HS2:Hid (bY w2 n0 bv (.slice pt ts.length ct) (.slice pf F.length cf) (.slice (some ⟨gL,oL,none⟩) L.length cl)∧HpB w2 n1 h∧SdB w2 n4 s):=⟨ae H2.out.2 HC.out (by simp),ae H2.out.2 HH.out (by simp),ae H2.out.1 HX.out.1 (by simp)⟩
     have HZ2:Hid (HpB w2 n2 Hp.none∧SdB w2 n3 Sd.none):=⟨ae H2.out.2 HZ.out (by simp),ae H2.out.2 HY.out (by simp)⟩
     have Hn4:Hid (n4≠n2∧n4≠n3):=⟨oM HX.out.2.2 Hne.out.2.2.2.2,oM HX.out.2.2 Hne.out.2.2.2.1⟩
     obtain⟨bh,hbh⟩:∃ bh,bh=ia F s h:=⟨_,rfl⟩
     have Hbh:Hid (bh=ia F s h):=hbh
     rw[←hbh] at CB
     have CB2:=CB w2.drew (aa H2.out.1 (ag _))
     clear CB hbh Hb Ha
     go_upto_region 5 with fail
     refine wp_region_held_drew (S:=fun w'=>bY w' n0 bv (.slice pt ts.length ct) (.slice pf F.length cf) (.slice (some ⟨gL,oL,none⟩) L.length cl)∧HpB w' n1 h∧SdB w' n4 s) (by kernel_rfl) (HS2.out) (fun hHeld=>?_)
     refine QT 0 rfl (by intro w0 hSw;obtain⟨c0,c1,c2,c3⟩:=aR hSw.1;go_simp;try with_reducible rfl) ?_
     go_frame
     refine QT 1 rfl (by intro w0 hSw;obtain⟨x0,x1,x2,x3,x4,x5⟩:=aL hSw.2.1;go_simp;try with_reducible rfl) ?_
     go_frame
     refine QT 2 rfl (by intro w0 hSw;obtain⟨d0,d1,d2,d3,d4,d5,d6,d7,d8,d9⟩:=aT hSw.2.2;go_simp;try with_reducible rfl) ?_
     go_frame
     refine QT 4 rfl (by intro w0 hSw;obtain⟨d0,d1,d2,d3,d4,d5,d6,d7,d8,d9⟩:=aT hSw.2.2;go_simp;try with_reducible rfl) ?_
     go_frame
     refine QR 3 rfl (fun K hK=>?_)
     go_simp
     go_at_call 151
     refine(CB2).mono ?_
     rintro e5 w5 ⟨rfl,g5⟩
     have HG5:Hid (w2.grownBy w5 none):=aa (ag _) g5
     have HS5:Hid (bY w5 n0 bv (.slice pt ts.length ct) (.slice pf F.length cf) (.slice (some ⟨gL,oL,none⟩) L.length cl)∧HpB w5 n1 h∧SdB w5 n4 s):=⟨ae HG5.out HS2.out.1 (by simp),ae HG5.out HS2.out.2.1 (by simp),ae HG5.out HS2.out.2.2 (by simp)⟩
     have HZ5:Hid (HpB w5 n2 Hp.none∧SdB w5 n3 Sd.none):=⟨ae HG5.out HZ2.out.1 (by simp),ae HG5.out HZ2.out.2 (by simp)⟩
     obtain⟨z0,z1,z2,z3,z4,z5⟩:=di HZ5.out.1
     have zf:=fun i=>ao HZ5.out.1 i
     clear g5 CB2
     refine hK.out _ _ (HS5.out) (fun hHeld2=>?_)
     clear hK K
     (try go_frame)
     refine QR 5 rfl (fun K9 hK=>?_)
     go_simp
     refine hK.out _ _ (⟨ae (aW _ _ _ _ _ _ _ _) HS5.out.1 (fun q=>Hne.out.1.1 (Option.some.inj q)),ae (aW _ _ _ _ _ _ _ _) HS5.out.2.1 (fun q=>Hne.out.1.2.2.1 (Option.some.inj q)),ae (aW _ _ _ _ _ _ _ _) HS5.out.2.2 (fun q=>Hn4.out.1 (Option.some.inj q))⟩) (fun hHeld3=>?_)
     clear hK K9
     (try go_frame)
     obtain⟨Y,hY⟩:∃ Y,Y=(((((w5.setCell ⟨n2,0,none⟩ (.int .u8 bh.vb)).setCell ⟨n2,1,none⟩ (.int .i64 bh.on)).setCell ⟨n2,2,none⟩ (.int .i64 bh.ct)).setCell ⟨n2,3,none⟩ (.int .i64 bh.ho)).setCell ⟨n2,4,none⟩ (.bool bh.vn)).setCell ⟨n2,5,none⟩ (.bool bh.dr):=⟨_,rfl⟩
     rw[←hY]
     have HY5:Hid (HpB Y n2 bh∧SdB Y n3 Sd.none∧w.grownBy Y none∧(bY Y n0 bv (.slice pt ts.length ct) (.slice pf F.length cf) (.slice (some ⟨gL,oL,none⟩) L.length cl)∧HpB Y n1 h∧SdB Y n4 s)):=by
      rw[hY]
      exact⟨dZ bh HZ5.out.1,ae (aW _ _ _ _ _ _ _ _) HZ5.out.2 (fun q=>Hne.out.1.2.2.2.2 (Option.some.inj q).symm),aV (aa (aa HG.out H2.out.2) HG5.out) Hne.out.2.1 _ _ _ _ _ _,⟨ae (aW _ _ _ _ _ _ _ _) HS5.out.1 (fun q=>Hne.out.1.1 (Option.some.inj q)),ae (aW _ _ _ _ _ _ _ _) HS5.out.2.1 (fun q=>Hne.out.1.2.2.1 (Option.some.inj q)),ae (aW _ _ _ _ _ _ _ _) HS5.out.2.2 (fun q=>Hn4.out.1 (Option.some.inj q))⟩⟩
     clear hY z0 z1 z2 z3 z4 z5 zf hHeld hHeld2 hHeld3
     obtain⟨z0,z1,z2,z3,z4,z5,z6,z7,z8,z9⟩:=pE HY5.out.2.1
     have zf:=fun i=>ao HY5.out.2.1 i
     refine QR 6 rfl (fun K9 hK=>?_)
     go_simp
     refine hK.out _ _ (⟨ae (bK _ _ _ _ _ _ _ _ _ _ _ _) HY5.out.2.2.2.1 (fun q=>Hne.out.1.2.1 (Option.some.inj q)),ae (bK _ _ _ _ _ _ _ _ _ _ _ _) HY5.out.2.2.2.2.1 (fun q=>Hne.out.1.2.2.2.1 (Option.some.inj q)),ae (bK _ _ _ _ _ _ _ _ _ _ _ _) HY5.out.2.2.2.2.2 (fun q=>Hn4.out.2 (Option.some.inj q))⟩) (fun hHeld3=>?_)
     clear hK K9
     (try go_frame)
     obtain⟨Q,hQ⟩:∃ Q,Q=(((((((((Y.setCell ⟨n3,0,none⟩ (.int .i64 s.th)).setCell ⟨n3,1,none⟩ (.int .i64 s.pl)).setCell ⟨n3,2,none⟩ (.int .u8 s.wh.wn)).setCell ⟨n3,3,none⟩ (.int .u8 s.wh.vb)).setCell ⟨n3,4,none⟩ (.int .u8 s.wh.wm)).setCell ⟨n3,5,none⟩ (.int .i64 s.wh.ct)).setCell ⟨n3,6,none⟩ (.int .u8 s.wh.su)).setCell ⟨n3,7,none⟩ (.int .u8 s.wh.tr)).setCell ⟨n3,8,none⟩ (.int .u8 s.wh.mr)).setCell ⟨n3,9,none⟩ (.string s.wh.nm):=⟨_,rfl⟩
     rw[←hQ]
     have HQ:Hid (HpB Q n2 bh∧SdB Q n3 s∧w.grownBy Q none∧(bY Q n0 bv (.slice pt ts.length ct) (.slice pf F.length cf) (.slice (some ⟨gL,oL,none⟩) L.length cl)∧HpB Q n1 h∧SdB Q n4 s)):=by
      rw[hQ]
      exact⟨ae (bK _ _ _ _ _ _ _ _ _ _ _ _) HY5.out.1 (fun q=>Hne.out.1.2.2.2.2 (Option.some.inj q)),fO s HY5.out.2.1,sz HY5.out.2.2.1 Hne.out.2.2.1 _ _ _ _ _ _ _ _ _ _,⟨ae (bK _ _ _ _ _ _ _ _ _ _ _ _) HY5.out.2.2.2.1 (fun q=>Hne.out.1.2.1 (Option.some.inj q)),ae (bK _ _ _ _ _ _ _ _ _ _ _ _) HY5.out.2.2.2.2.1 (fun q=>Hne.out.1.2.2.2.1 (Option.some.inj q)),ae (bK _ _ _ _ _ _ _ _ _ _ _ _) HY5.out.2.2.2.2.2 (fun q=>Hn4.out.2 (Option.some.inj q))⟩⟩
     have hHeld9:=HQ.out.2.2.2
     clear hQ z0 z1 z2 z3 z4 z5 z6 z7 z8 z9 zf
     refine QZ 7 rfl ?_
     go_frame
     refine QD ?_
     obtain⟨z0,z1,z2,z3,z4,z5⟩:=aL HQ.out.1
     obtain⟨d0,d1,d2,d3,d4,d5,d6,d7,d8,d9⟩:=aT HQ.out.2.1
     go_wp2_with fail
     refine bodyPost_ret (v:=.tuple #[hpv bh,sdv s,.bool true]) (by simp[results,Tryz.results81,go_sem,hpv,sdv,z0,z1,z2,z3,z4,z5,d0,d1,d2,d3,d4,d5,d6,d7,d8,d9]) rfl ⟨by rw[HF.out,Hbh.out];rfl,HQ.out.2.2.1⟩
  ·obtain rfl:k=L.length:=Nat.le_antisymm hk' (Nat.le_of_not_lt hlt)
   have i1:¬(L.length:Int)<(L.length:Int):=Int.lt_irrefl _
   have HF:Hid (fl cd ts F L h S=none∧HpB U n2 Hp.none∧SdB U n3 Sd.none∧w.grownBy U none):=⟨by have:=HK.out.1;rw[List.take_length] at this;exact this,ae HK.out.2 HZ.out (by simp),ae HK.out.2 HY.out (by simp),aa HG.out HK.out.2⟩
   clear hk' hlt HK c0 c1 c2 c3 x0 x1 x2 x3 x4 x5
   obtain⟨W5,hW5⟩:∃ W5,W5=U.setRow n2 (hpa Hp.none):=⟨_,rfl⟩
   have H5:Hid (HpB W5 n2 Hp.none∧SdB W5 n3 Sd.none∧w.grownBy W5 none):=⟨by rw[hW5];exact setRow_heap U n2 _ _ _ _ HF.out.2.1,by rw[hW5];exact ae (aO _ _ _) HF.out.2.2.1 (fun q=>Hne.out.1.2.2.2.2 (Option.some.inj q).symm),by rw[hW5];exact am HF.out.2.2.2 (aO _ _ _) (fun y e=>by cases e;exact Hne.out.2.1)⟩
   obtain⟨W6,hW6⟩:∃ W6,W6=W5.setRow n3 (sda Sd.none):=⟨_,rfl⟩
   have H6:Hid (HpB W6 n2 Hp.none∧SdB W6 n3 Sd.none∧w.grownBy W6 none):=⟨by rw[hW6];exact ae (aO _ _ _) H5.out.1 (fun q=>Hne.out.1.2.2.2.2 (Option.some.inj q)),by rw[hW6];exact setRow_heap W5 n3 _ _ _ _ H5.out.2.1,by rw[hW6];exact am H5.out.2.2 (aO _ _ _) (fun y e=>by cases e;exact Hne.out.2.2.1)⟩
   go_upto_region 7 with fail
   go_wp2_with (first | (refine wpList_store_row rfl 43 (.tmp 6) (.tmp 34) rfl n2 (hpa Hp.none) rfl rfl 43 _ HF.out.2.1 (by kernel_rfl) rfl (by simp[hpa,Value.oneCell']) ?_) | (refine wpList_store_row rfl 40 (.tmp 7) (.tmp 35) rfl n3 (sda Sd.none) rfl rfl 40 _ (by rw[←hW5];exact H5.out.2.1) (by kernel_rfl) rfl (by simp[sda,Value.oneCell']) ?_))
   rw[←hW5,←hW6]
   obtain⟨y0,y1,y2,y3,y4,y5⟩:=di H6.out.1
   obtain⟨z0,z1,z2,z3,z4,z5,z6,z7,z8,z9⟩:=pE H6.out.2.1
   refine bodyPost_ret (v:=.tuple #[hpv Hp.none,sdv Sd.none,.bool false]) (by simp[results,Tryz.results81,go_sem,hpv,sdv,Hp.none,Sd.none,Pt.none,y0,y1,y2,y3,y4,y5,z0,z1,z2,z3,z4,z5,z6,z7,z8,z9]) rfl ⟨by rw[HF.out.1];rfl,H6.out.2.2⟩
set_option maxHeartbeats 2000000
open Go.Shelf
theorem lV (x y:Hp) (w:World):(Op.equalIn 10000 43 (.agg (hpa x)) (.agg (hpa y))).run Tryz.prog w=.ok (decide (x=y)) w:=by
 have hS:Tryz.prog.underlying 43=some (.struct (Tryz.prog.fieldsOf 43)):=by kernel_rfl
 have hp:Tryz.prog.stoodInHeld 43=false:=by kernel_rfl
 have u3:=Tryz.underlying3
 have i3:=Tryz.isAgg3
 have z3:=Tryz.sizeOf3
 have u4:=Tryz.underlying4
 have i4:=Tryz.isAgg4
 have z4:=Tryz.sizeOf4
 have u24:=Tryz.underlying32
 have i24:=Tryz.isAgg32
 have z24:=Tryz.sizeOf32
 rw[show (10000:Nat)=9999+1 from rfl,run_equalIn_agg w 9999 43 _ _ hS hp]
 simp only[Program.fieldsOf,Tryz.underlying43,hpa]
 go_simp
 rcases x with ⟨x0,x1,x2,x3,x4,x5⟩
 rcases y with ⟨y0,y1,y2,y3,y4,y5⟩
 simp only
 by_cases h0:x0=y0
 case neg=>simp[h0]
 simp only[h0]
 by_cases h1:x1=y1
 case neg=>simp[h1]
 simp only[h1]
 by_cases h2:x2=y2
 case neg=>simp[h2]
 simp only[h2]
 by_cases h3:x3=y3
 case neg=>simp[h3]
 simp only[h3]
 by_cases h4:x4=y4
 case neg=>simp[h4]
 simp only[h4]
 by_cases h5:x5=y5
 case neg=>simp[h5]
 simp[h5]
theorem tQ (x y:Hp) (w:World):(binOp .neq 43 (.agg (hpa x)) (.agg (hpa y))).run Tryz.prog w=.ok (.bool (!decide (x=y))) w:=by
 rw[run_neq_struct,lV];rfl
theorem nl (op:BinOp) (x y:Operand) (xs ys:Array Value) (w:World):(eqGuard op 43 x y (.agg xs) (.agg ys)).run Tryz.prog w=.ok () w:=run_eqGuard_agg w op 43 x y xs ys (by kernel_rfl)
structure Ss where
 af:Hp
 us:List Sd
 go:Int
 li:Int
def Ss.begin (h:Hp):Ss:=⟨h,[],0,0⟩
def Ss.none:Ss:=⟨Hp.none,[],0,0⟩
def Ss.more (F:List Fe) (h0:Hp) (x:Ss) (s:Sd):Ss:=⟨ia F s x.af,x.us++[s],if h0.vb=6 then s.wh.ct else x.go,if h0.vb=3 then s.wh.ct else x.li⟩
def ig (cd:Int→Hd×List Pt) (ts:List Th) (F:List Fe) (L:List Sd) (h0:Hp):Nat→Ss→Ss
 | 0,x=>x
 | m+1,x=>if x.af=Hp.none then x else match fl cd ts F L x.af x.us with
  | none=>x
  | some s=>ig cd ts F L h0 m (x.more F h0 s)
def bU (L us:List Sd):Nat:=(L.filter fun s=>!gB us s).length
theorem zZ (us:List Sd) (s:Sd):gB (us++[s]) s=true:=by unfold gB;simp
theorem sA {us:List Sd} {s o:Sd} (h:gB us o=true):gB (us++[s]) o=true:=by unfold gB at *;rw[List.any_append,h,Bool.true_or]
theorem vB (us:List Sd) (s:Sd):∀ L:List Sd,bU L (us++[s])≤bU L us
 | []=>Nat.le_refl _
 | o :: L=>by
  have:=vB us s L
  unfold bU at *
  cases h:gB us o with
  | true=>rw[List.filter_cons,List.filter_cons,sA h,h];simpa using this
  | false =>
   cases h2:gB (us++[s]) o with
   | true=>rw[List.filter_cons,List.filter_cons,h,h2];simp;omega
   | false=>rw[List.filter_cons,List.filter_cons,h,h2];simp;omega
theorem ll {us:List Sd} {s:Sd} (hs:gB us s=false):∀ {L:List Sd},s∈L→bU L (us++[s])<bU L us
 | o :: L,h=>by
  rcases List.mem_cons.1 h with rfl | h
  ·have:=vB us s L
   unfold bU at *
   rw[List.filter_cons,List.filter_cons,hs,zZ]
   simp
   omega
  ·have ih:=ll hs h
   unfold bU at *
   cases h1:gB us o with
   | true=>rw[List.filter_cons,List.filter_cons,sA h1,h1];simpa using ih
   | false =>
    cases h2:gB (us++[s]) o with
    | true=>rw[List.filter_cons,List.filter_cons,h1,h2];simp;omega
    | false=>rw[List.filter_cons,List.filter_cons,h1,h2];simp;omega
theorem jy {cd:Int→Hd×List Pt} {ts:List Th} {F:List Fe} {L us:List Sd} {h:Hp} {s:Sd} (e:fl cd ts F L h us=some s):s∈L∧gB us s=false∧jk cd ts F s h=true:=by
 unfold fl at e
 have h1:=List.find?_some e
 unfold nG at h1
 simp only[Bool.and_eq_true,Bool.not_eq_true'] at h1
 exact⟨List.mem_of_find?_eq_some e,h1.1,h1.2⟩
theorem kf {cd:Int→Hd×List Pt} {ts:List Th} {F:List Fe} {L:List Sd} {h0:Hp} (m:Nat) {x:Ss} {s:Sd} (hz:¬x.af=Hp.none) (h:fl cd ts F L x.af x.us=some s):ig cd ts F L h0 (m+1) x=ig cd ts F L h0 m (x.more F h0 s):=by
 show (if x.af=Hp.none then x else match fl cd ts F L x.af x.us with
  | none=>x
  | some s=>ig cd ts F L h0 m (x.more F h0 s))=_
 rw[if_neg hz,h]
theorem kg {cd:Int→Hd×List Pt} {ts:List Th} {F:List Fe} {L:List Sd} {h0:Hp}:∀ (m:Nat) (x:Ss),bU L x.us≤m→ig cd ts F L h0 m x=ig cd ts F L h0 (bU L x.us) x
 | 0,x,h=>by rw[Nat.le_zero.1 h]
 | m+1,x,h=>by
  by_cases hz:x.af=Hp.none
  ·have:∀ k,ig cd ts F L h0 k x=x:=fun k=>by cases k with | zero=>rfl | succ k=>unfold ig;rw[if_pos hz]
   rw[this,this]
  ·cases hn:fl cd ts F L x.af x.us with
   | none =>
    have:∀ k,ig cd ts F L h0 k x=x:=fun k=>by cases k with | zero=>rfl | succ k=>unfold ig;rw[if_neg hz,hn]
    rw[this,this]
   | some s =>
    obtain⟨h1,h2,_⟩:=jy hn
    have hlt:=ll h2 h1
    obtain⟨k,hk⟩:∃ k,bU L x.us=k+1:=⟨bU L x.us - 1,by omega⟩
    rw[hk]
    rw[kf m hz hn,kf k hz hn]
    have e1:(x.more F h0 s).us=x.us++[s]:=rfl
    rw[kg m _ (by rw[e1];omega),←kg k _ (by rw[e1];omega)]
def cW (cd:Int→Hd×List Pt) (ts:List Th) (F:List Fe) (L:List Sd) (h0:Hp) (x:Ss):Ss:=ig cd ts F L h0 (bU L x.us) x
theorem wU {cd:Int→Hd×List Pt} {ts:List Th} {F:List Fe} {L:List Sd} {h0:Hp} {x:Ss} (h:x.af=Hp.none):cW cd ts F L h0 x=x:=by
 unfold cW
 cases bU L x.us with
 | zero=>rfl
 | succ k=>unfold ig;rw[if_pos h]
theorem Ah {cd:Int→Hd×List Pt} {ts:List Th} {F:List Fe} {L:List Sd} {h0:Hp} {x:Ss} (h:fl cd ts F L x.af x.us=none):cW cd ts F L h0 x=x:=by
 unfold cW
 cases bU L x.us with
 | zero=>rfl
 | succ k =>
  unfold ig
  by_cases hz:x.af=Hp.none
  ·rw[if_pos hz]
  ·rw[if_neg hz,h]
theorem tC {cd:Int→Hd×List Pt} {ts:List Th} {F:List Fe} {L:List Sd} {h0:Hp} {x:Ss} {s:Sd} (hz:¬x.af=Hp.none) (h:fl cd ts F L x.af x.us=some s):cW cd ts F L h0 x=cW cd ts F L h0 (x.more F h0 s):=by
 obtain⟨h1,h2,_⟩:=jy h
 have hlt:=ll h2 h1
 obtain⟨k,hk⟩:∃ k,bU L x.us=k+1:=⟨bU L x.us - 1,by omega⟩
 unfold cW
 rw[hk,kf k hz h]
 have e1:(x.more F h0 s).us=x.us++[s]:=rfl
 exact kg k _ (by rw[e1];omega)
end Go.Proofs.YthfjgpjcepmnmaaGreat
