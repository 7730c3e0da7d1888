import Derived.Test.YtjmepebbcnhalaaGreatW0
import Derived.Test.YtjmepebbcnhalaaGreatWLyF
import Derived.Laws.StructEq
import Derived.WalkMore
namespace Go.Proofs.YtjmepebbcnhalaaGreat
set_option maxRecDepth 100000
set_option maxHeartbeats 4000000
open Go.RowKit
theorem kY:∀ (xs ys:List Bool),xs.length=ys.length→((List.range xs.length).all fun i=>xs.getD i false == ys.getD i false)=(xs == ys)
 | [],[],_=>rfl
 | x :: xs,y :: ys,h=>by
  have ih:=kY xs ys (by simpa using h)
  rw[List.length_cons,List.range_succ_eq_map,List.all_cons,List.all_map]
  simp only[List.getD_cons_zero,Function.comp_def,List.getD_cons_succ,ih]
  simp[List.cons_beq_cons]
 | [],_ :: _,h=>by simp at h
 | _ :: _,[],h=>by simp at h
theorem jQ {P:Program} (w:World) (d:Nat) (t e:TypeId) (n:Nat) (ht:P.underlying t=some (.array n e)) (he:P.underlying e=some .bool) (hsz:∀ w,(sizeOf e).run P w=.ok 1 w)
  (xs ys:List Bool) (hx:xs.length=n) (hy:ys.length=n) :
  (Op.equalIn (d+2) t (.agg (xs.map Value.bool).toArray) (.agg (ys.map Value.bool).toArray)).run P w=.ok (xs == ys) w:=by
 rw[←kY xs ys (hx.trans hy.symm),hx,List.range_eq_range',Op.equalIn]
 simp only[Sem.run_bind,run_underlying ht,Result.andThen_ok,hsz,Std.Legacy.Range.forIn_eq_forIn_range',Std.Legacy.Range.size,Nat.sub_zero,Nat.add_sub_cancel,Nat.div_one]
 have hl:∀ i∈List.range' 0 n 1,i<n:=fun i hi=>by simpa using (List.mem_range'_1.1 hi).2
 generalize List.range' 0 n 1=l at hl ⊢
 induction l with
 | nil=>simp
 | cons i l ih =>
  have hi:i<n:=hl i (by simp)
  have px:(part e (xs.map Value.bool).toArray (i*1)).run P w=.ok (.bool (xs.getD i false)) w:=by
   simp[part,isAgg,run_underlying he,List.getD,List.getElem?_eq_getElem (show i<xs.length by omega)]
  have py:(part e (ys.map Value.bool).toArray (i*1)).run P w=.ok (.bool (ys.getD i false)) w:=by
   simp[part,isAgg,run_underlying he,List.getD,List.getElem?_eq_getElem (show i<ys.length by omega)]
  have pe:(Op.equalIn (d+1) e (.bool (xs.getD i false)) (.bool (ys.getD i false))).run P w=.ok (xs.getD i false == ys.getD i false) w:=run_equalIn_bool' w d e _ _ he
  simp only[List.forIn_cons,Sem.run_bind,px,py,pe,Result.andThen_ok,List.all_cons]
  cases hb:(xs.getD i false == ys.getD i false)
  ·simp
  ·simp only[Bool.not_true,Bool.false_eq_true,if_false,Sem.run_pure,Result.andThen_ok,Bool.true_and]
   exact ih fun j hj=>hl j (by simp[hj])
theorem zz (a b:List Bool) (ha:a.length≤16) (hb:b.length≤16) (w:World):(binOp .neq 226 (.agg (smc a)) (.agg (smc b))).run Tryz.prog w=.ok (.bool (!(pad a == pad b))) w:=by
 unfold smc
 rw[run_neq_struct,jQ w 9998 226 4 16 (by kernel_rfl) (by kernel_rfl) (fun _=>by kernel_rfl) _ _ (kq ha) (kq hb)]
 rfl
theorem yI (op:BinOp) (x y:Operand) (xs ys:Array Value) (w:World):(eqGuard op 226 x y (.agg xs) (.agg ys)).run Tryz.prog w=.ok () w:=run_eqGuard_agg w op 226 x y xs ys (by kernel_rfl)
theorem fS (R:List Rw) (F:List Fe) (s:Se):(aM R F s).length=R.length:=eU _ _ _ _
theorem Bi (R:List Rw) (F:List Fe) (s o:Se):(!(pad (aM R F s) == pad (aM R (aP R F o) s)))=eX R F s o:=by
 unfold eX
 congr 1
 rw[Bool.eq_iff_iff]
 simp only[beq_iff_eq,decide_eq_true_eq]
 exact⟨fun h=>Ao (by rw[fS,fS]) h,fun h=>by rw[h]⟩
theorem dS.applied {w w':World} {vr vf vf':Value} {X:List Rv} {F:List Fe} {base:Nat} (T:dS w vr vf X F) (g:w.grownBy w' none) (s:Se) (o:dt w' base vf' (aP (rws X) F s)):dS w' vr vf' X (aP (rws X) F s) :=
 ⟨T.rows.keep g,fun x hx=>⟨(T.parts x hx).1.keep g,(T.parts x hx).2⟩,o.at,by rw[jo];exact T.len,T.few⟩
theorem jW (vr vf:Value) (X:List Rv) (F:List Fe) (e o:Se) (w:World) (T:dS w vr vf X F) (hr:e.ro<X.length) (hq:o.ro<X.length):Calls Tryz.prog 136 #[tbv vr vf,sev e,sev o] w fun e' w'=>e'=.returned (.bool (eX (rws X) F e o))∧w.grownBy w' none:=by
 obtain⟨pr,cr,rfl⟩:=T.rows.form
 obtain⟨pf,cf,rfl⟩:=T.fs.form
 obtain⟨W1,hW1⟩:∃ W1,W1=((w.alloc (.cells #[.slice pr X.length cr,.slice pf F.length cf] 125)).alloc (.cells #[.int .i64 e.s.th,.int .i64 e.s.pl,.int .u8 e.s.wh.wn,.int .u8 e.s.wh.vb,.int .u8 e.s.wh.wm,.int .i64 e.s.wh.ct,.int .u8 e.s.wh.su,.int .u8 e.s.wh.tr,.int .u8 e.s.wh.mr,.string e.s.wh.nm,.int .i64 (e.ro:Int)] 131)).alloc (.cells #[.int .i64 o.s.th,.int .i64 o.s.pl,.int .u8 o.s.wh.wn,.int .u8 o.s.wh.vb,.int .u8 o.s.wh.wm,.int .i64 o.s.wh.ct,.int .u8 o.s.wh.su,.int .u8 o.s.wh.tr,.int .u8 o.s.wh.mr,.string o.s.wh.nm,.int .i64 (o.ro:Int)] 131):=⟨_,rfl⟩
 have HG1:Hid (w.grownBy W1 none):=by rw[hW1];exact am (am (World.grownBy_alloc _ _ none) _) _
 have HB:Hid (TbB W1 w.heap.size (.slice pr X.length cr) (.slice pf F.length cf)):=by rw[hW1];exact ai (am (World.grownBy_alloc _ _ none) _) (ak w _ _) (by simp)
 have HS:Hid (SeB W1 (w.heap.size+1) e):=by rw[hW1];exact ai (World.grownBy_alloc _ _ none) (aL _ _ _ _) (by simp)
 have HO:Hid (SeB W1 (w.heap.size+1+1) o):=by rw[hW1];exact bK _ _ _ _ _
 have HTW:Hid (dS W1 (.slice pr X.length cr) (.slice pf F.length cf) X F):=T.keep HG1.out
 have Hr:Hid (e.ro<X.length):=hr
 have Hq:Hid (o.ro<X.length):=hq
 have H16:Hid ((rws X).length≤16):=by rw[cm];exact T.few
 have C1:=io _ _ X F e W1.drew (HTW.out.keep (ag _)) hr
 have C2:Hid (∀ V,W1.grownBy V none→Calls Tryz.prog 69 #[.agg #[.slice pr X.length cr,.slice pf F.length cf],.agg #[.int .i64 o.s.th,.int .i64 o.s.pl,.int .u8 o.s.wh.wn,.int .u8 o.s.wh.vb,.int .u8 o.s.wh.wm,.int .i64 o.s.wh.ct,.int .u8 o.s.wh.su,.int .u8 o.s.wh.tr,.int .u8 o.s.wh.mr,.string o.s.wh.nm,.int .i64 (o.ro:Int)]] V fun e' w'=>∃ vf',e'=.returned (tbv (.slice pr X.length cr) vf')∧dt w' V.heap.size vf' (aP (rws X) F o)∧V.grownBy w' none):=fun V g=>jD _ _ X F o V (HTW.out.keep g) hq
 unfold tbv sev smv at C1
 have HD:Hid ((!(pad (aM (rws X) F e) == pad (aM (rws X) (aP (rws X) F o) e)))=eX (rws X) F e o):=Bi _ _ _ _
 obtain⟨a,ha⟩:∃ a,a=aM (rws X) F e:=⟨_,rfl⟩
 have Ha:Hid (a.length≤16):=by show _≤_;rw[ha,fS];exact H16.out
 rw[←ha] at C1 HD
 unfold tbv sev
 clear T hr hq ha
 go_enter Tryz.func136,Tryz.ntmps136
 go_upto_region 1 with fail
 rw[←hW1]
 clear hW1
 obtain⟨n0,h0⟩:∃ n0,n0=w.heap.size:=⟨_,rfl⟩
 simp only[←h0] at HB HS HO ⊢
 obtain⟨n1,h1⟩:∃ n1,n1=n0+1:=⟨_,rfl⟩
 simp only[←h1] at HS HO ⊢
 obtain⟨n2,h2⟩:∃ n2,n2=n1+1:=⟨_,rfl⟩
 simp only[←h2] at HO ⊢
 clear h0 h1 h2
 obtain⟨b0,b1⟩:=bH HB.out
 obtain⟨s0,s1,s2,s3,s4,s5,s6,s7,s8,s9,s10⟩:=dU HS.out
 obtain⟨o0,o1,o2,o3,o4,o5,o6,o7,o8,o9,o10⟩:=dU HO.out
 refine wp_region_held_drew (S:=fun w'=>W1.grownBy w' none) (by kernel_rfl) (ag _) (fun hHeld=>?_)
 refine QT 0 rfl (by intro w0 hSw;have b0:=hSw.cell b0 (by simp);have b1:=hSw.cell b1 (by simp);go_simp;try with_reducible rfl) ?_
 go_frame
 refine QT 1 rfl (by intro w0 hSw;have s0:=hSw.cell s0 (by simp);have s1:=hSw.cell s1 (by simp);have s2:=hSw.cell s2 (by simp);have s3:=hSw.cell s3 (by simp);have s4:=hSw.cell s4 (by simp);have s5:=hSw.cell s5 (by simp);have s6:=hSw.cell s6 (by simp);have s7:=hSw.cell s7 (by simp);have s8:=hSw.cell s8 (by simp);have s9:=hSw.cell s9 (by simp);have s10:=hSw.cell s10 (by simp);go_simp;try with_reducible rfl) ?_
 go_frame
 refine QT 3 rfl (by intro w0 hSw;have b0:=hSw.cell b0 (by simp);have b1:=hSw.cell b1 (by simp);go_simp;try with_reducible rfl) ?_
 go_frame
 refine QT 4 rfl (by intro w0 hSw;have o0:=hSw.cell o0 (by simp);have o1:=hSw.cell o1 (by simp);have o2:=hSw.cell o2 (by simp);have o3:=hSw.cell o3 (by simp);have o4:=hSw.cell o4 (by simp);have o5:=hSw.cell o5 (by simp);have o6:=hSw.cell o6 (by simp);have o7:=hSw.cell o7 (by simp);have o8:=hSw.cell o8 (by simp);have o9:=hSw.cell o9 (by simp);have o10:=hSw.cell o10 (by simp);go_simp;try with_reducible rfl) ?_
 go_frame
 refine QT 6 rfl (by intro w0 hSw;have s0:=hSw.cell s0 (by simp);have s1:=hSw.cell s1 (by simp);have s2:=hSw.cell s2 (by simp);have s3:=hSw.cell s3 (by simp);have s4:=hSw.cell s4 (by simp);have s5:=hSw.cell s5 (by simp);have s6:=hSw.cell s6 (by simp);have s7:=hSw.cell s7 (by simp);have s8:=hSw.cell s8 (by simp);have s9:=hSw.cell s9 (by simp);have s10:=hSw.cell s10 (by simp);go_simp;try with_reducible rfl) ?_
 go_frame
 clear b0 b1 s0 s1 s2 s3 s4 s5 s6 s7 s8 s9 s10 o0 o1 o2 o3 o4 o5 o6 o7 o8 o9 o10
 refine QR 2 rfl (fun K hK=>?_)
 go_simp
 go_at_call 145
 refine(C1).mono ?_
 rintro e2 w2 ⟨rfl,g2⟩
 have HG2:Hid (W1.grownBy w2 none):=aa (ag _) g2
 clear g2 C1
 refine hK.out _ _ (HG2.out) (fun hHeld2=>?_)
 clear hK K
 (try go_frame)
 refine QR 5 rfl (fun K hK=>?_)
 go_simp
 go_at_call 69
 refine(C2.out _ HG2.out).mono ?_
 rintro e3 w3 ⟨v3,rfl,o3,g3⟩
 unfold tbv
 have HG3:Hid (W1.grownBy w3 none):=aa HG2.out g3
 have C3:=io _ _ X _ e w3 (HTW.out.applied HG3.out o o3) Hr.out
 unfold tbv sev smv at C3
 obtain⟨b,hb⟩:∃ b,b=aM (rws X) (aP (rws X) F o) e:=⟨_,rfl⟩
 have Hb:Hid (b.length≤16):=by show _≤_;rw[hb,fS];exact H16.out
 rw[←hb] at C3 HD
 clear g3 o3 hb C2
 refine hK.out _ _ (HG3.out) (fun hHeld2=>?_)
 clear hK K
 (try go_frame)
 refine QR 7 rfl (fun K hK=>?_)
 go_simp
 go_at_call 145
 refine(C3).mono ?_
 rintro e4 w4 ⟨rfl,g4⟩
 have HG4:Hid (W1.grownBy w4 none):=aa HG3.out g4
 clear g4 C3
 refine hK.out _ _ (HG4.out) (fun hHeld2=>?_)
 clear hK K
 (try go_frame)
 refine QT 8 rfl (by intro w0 hSw;have q1:=zz a b Ha.out Hb.out;have q2:=yI;go_simp;try with_reducible rfl) ?_
 go_frame
 refine QZ 9 rfl ?_
 go_frame
 refine QD ?_
 go_wp2_with fail
 go_ret
 exact⟨ch HD.out,aa HG1.out HG4.out⟩
theorem zq {R:List Rw} {F:List Fe} {L:List Se} {i j:Nat} (hj:j<L.length) (hij:i≠j) (h:eX R F (L.getD i Se.none) (L.getD j Se.none)=true):bI R F L i=false:=by
 unfold bI
 rw[List.all_eq_false]
 exact⟨j,List.mem_range.2 hj,by rw[h];simpa using hij⟩
theorem xR {R:List Rw} {F:List Fe} {L:List Se} {i:Nat} (h:∀ j,j<L.length→i=j∨eX R F (L.getD i Se.none) (L.getD j Se.none)=false):bI R F L i=true:=by
 unfold bI
 rw[List.all_eq_true]
 intro j hj
 rcases h j (List.mem_range.1 hj) with e | e
 ·simp[e]
 ·rw[e]
  simp
theorem mF {p:Nat→Bool}:∀ (n k:Nat),k<n→(∀ i,i<k→p i=false)→p k=true→(List.range n).find? p=some k
 | n+1,k,hk,hn,hp=>by
  rw[List.range_succ,List.find?_append]
  by_cases h:k<n
  ·rw[mF n k h hn hp]
   rfl
  ·have:k=n:=by omega
   subst this
   rw[List.find?_eq_none.2 (fun x hx=>by rw[hn x (List.mem_range.1 hx)];simp)]
   simp[hp]
theorem rz {R:List Rw} {F:List Fe} {L:List Se} {k:Nat} (hk:k<L.length) (hn:∀ i,i<k→bI R F L i=false) (hp:bI R F L k=true):bX R F L=k:=by
 unfold bX
 rw[mF _ k hk hn hp]
 rfl
theorem mq {R:List Rw} {F:List Fe} {L:List Se} (hn:∀ i,i<L.length→bI R F L i=false):bX R F L=0:=by
 unfold bX
 rw[List.find?_eq_none.2 (fun x hx=>by rw[hn x (List.mem_range.1 hx)];simp)]
 rfl
theorem jU {R:List Rw} {F:List Fe} {L:List Se} (h:L≠[]):bX R F L<L.length:=by
 have h0:0<L.length:=List.length_pos_iff.2 h
 unfold bX
 cases hf:(List.range L.length).find? (bI R F L) with
 | none=>exact h0
 | some k=>exact List.mem_range.1 (List.mem_of_find?_eq_some hf)
theorem aC {α:Type} {l:List α} {i:Nat} {d:α} (h:i<l.length):l.getD i d=l[i]:=by rw[List.getD_eq_getElem?_getD,List.getElem?_eq_getElem h];rfl
theorem SeAt.there {w:World} {v:Value} {L:List Se} (h:seR.At w v L) {i:Nat} (hi:i<L.length):∃ g off cap,v=.slice (some ⟨g,off,none⟩) L.length cap∧w.rangeAt g (off+i*11) (sec (L.getD i Se.none)):=by
 rw[aC hi]
 exact aB.At.there h hi
theorem ow (vr vf v:Value) (X:List Rv) (F:List Fe) (L:List Se) (w:World) (T:dS w vr vf X F) (A:seR.At w v L) (hr:∀ i,i<L.length→(L.getD i Se.none).ro<X.length) (hl:L.length≤4096):Calls Tryz.prog 62 #[tbv vr vf,v] w fun e' w'=>e'=.returned (.int .i64 (bX (rws X) F L:Int))∧w.grownBy w' none:=by
 obtain⟨pr,cr,rfl⟩:=T.rows.form
 obtain⟨pf,cf,rfl⟩:=T.fs.form
 obtain⟨pl,cl,rfl⟩:=A.form
 obtain⟨W1,hW1⟩:∃ W1,W1=w.alloc (.cells #[.slice pr X.length cr,.slice pf F.length cf] 125):=⟨_,rfl⟩
 have HG1:Hid (w.grownBy W1 none):=by rw[hW1];exact World.grownBy_alloc _ _ none
 have HB:Hid (TbB W1 w.heap.size (.slice pr X.length cr) (.slice pf F.length cf)):=by rw[hW1];exact ak w _ _
 have HT:Hid (dS W1 (.slice pr X.length cr) (.slice pf F.length cf) X F):=T.keep HG1.out
 have HA:Hid (seR.At W1 (.slice pl L.length cl) L):=A.keep HG1.out
 have Hr:Hid (∀ i,i<L.length→(L.getD i Se.none).ro<X.length):=hr
 have Hl:Hid (L.length≤4096):=hl
 unfold tbv
 clear T A hr hl
 go_enter Tryz.func62,Tryz.ntmps62
 go_wp2_with fail
 rw[←hW1]
 clear hW1
 obtain⟨n0,h0⟩:∃ n0,n0=w.heap.size:=⟨_,rfl⟩
 simp only[←h0] at HB ⊢
 clear h0
 go_step3
 go_wp2_with fail
 go_step3
 go_wp2_with fail
 go_loopw [11] (fun i wr=>∃ k:Nat,k≤L.length∧i=.int .i64 (k:Int)∧(∀ i,i<k→bI (rws X) F L i=false)∧W1.grownBy wr none) (fun i _=>L.length - (intOf i).toNat)
 case atStart=>exact⟨0,Nat.zero_le _,rfl,fun i hi=>absurd hi (Nat.not_lt_zero _),ay _ _⟩
 case round =>
  obtain⟨k,hk,rfl,hfree,G⟩:=hrel
  obtain⟨U,hU⟩:∃ U,U=wr:=⟨_,rfl⟩
  subst hU
  have HF:Hid (∀ i,i<k→bI (rws X) F L i=false):=hfree
  have HG:Hid (W1.grownBy U none):=G
  clear hfree G
  by_cases hlt:k<L.length
  ·obtain⟨g,off,cap,e1,R⟩:=SeAt.there (HA.out.keep HG.out) hlt
   cases e1
   obtain⟨e,he⟩:∃ e,e=L.getD k Se.none:=⟨_,rfl⟩
   have He:Hid (e=L.getD k Se.none):=he
   rw[←he] at R
   obtain⟨c0,c1,c2,c3,c4,c5,c6,c7,c8,c9,c10⟩:=dJ R
   obtain⟨V,hV⟩:∃ V,V=U.alloc (.cells #[.int .i64 e.s.th,.int .i64 e.s.pl,.int .u8 e.s.wh.wn,.int .u8 e.s.wh.vb,.int .u8 e.s.wh.wm,.int .i64 e.s.wh.ct,.int .u8 e.s.wh.su,.int .u8 e.s.wh.tr,.int .u8 e.s.wh.mr,.string e.s.wh.nm,.int .i64 (e.ro:Int)] 131):=⟨_,rfl⟩
   have HGV:Hid (U.grownBy V none):=by rw[hV];exact World.grownBy_alloc _ _ none
   have HBe:Hid (SeB V U.heap.size e):=by rw[hV];exact ak _ _ _
   have hlt':(k:Int)<L.length:=by omega
   have Hlt:Hid (k<L.length):=hlt
   have hwk:wrap64 ((k:Int)+1)=(k:Int)+1:=by unfold wrap64;have:=Hl.out;omega
   have HM:Hid (L.length - (intOf (.int .i64 ((k:Int)+1))).toNat<L.length - (intOf (.int .i64 (k:Int))).toNat):=bQ hlt
   clear he R hlt hk
   go_upto_region 4 with fail
   rw[←hV]
   obtain⟨nb,hnb⟩:∃ nb,nb=U.heap.size:=⟨_,rfl⟩
   rw[←hnb] at HBe ⊢
   clear hV hnb c0 c1 c2 c3 c4 c5 c6 c7 c8 c9 c10
   go_wp2_with fail
   go_loopw [18] (fun i wr=>∃ m:Nat,m≤L.length∧i=.int .i64 (m:Int)∧(∀ j,j<m→k=j∨eX (rws X) F (L.getD k Se.none) (L.getD j Se.none)=false)∧V.grownBy wr none) (fun i _=>L.length - (intOf i).toNat)
   case atStart=>exact⟨0,Nat.zero_le _,rfl,fun i hi=>absurd hi (Nat.not_lt_zero _),ay _ _⟩
   case round =>
    obtain⟨m,hm,rfl,hfr,G⟩:=hrel
    obtain⟨Y,hY⟩:∃ Y,Y=wr:=⟨_,rfl⟩
    subst hY
    have HFr:Hid (∀ j,j<m→k=j∨eX (rws X) F (L.getD k Se.none) (L.getD j Se.none)=false):=hfr
    have HGY:Hid (V.grownBy Y none):=G
    have HGY1:Hid (W1.grownBy Y none):=aa (aa HG.out HGV.out) G
    clear hfr G
    by_cases hml:m<L.length
    ·obtain⟨g2,off2,cap2,e2,R⟩:=SeAt.there (HA.out.keep HGY1.out) hml
     cases e2
     obtain⟨o,ho⟩:∃ o,o=L.getD m Se.none:=⟨_,rfl⟩
     have Ho:Hid (o=L.getD m Se.none):=ho
     rw[←ho] at R
     obtain⟨c0,c1,c2,c3,c4,c5,c6,c7,c8,c9,c10⟩:=dJ R
     obtain⟨Z,hZ⟩:∃ Z,Z=Y.alloc (.cells #[.int .i64 o.s.th,.int .i64 o.s.pl,.int .u8 o.s.wh.wn,.int .u8 o.s.wh.vb,.int .u8 o.s.wh.wm,.int .i64 o.s.wh.ct,.int .u8 o.s.wh.su,.int .u8 o.s.wh.tr,.int .u8 o.s.wh.mr,.string o.s.wh.nm,.int .i64 (o.ro:Int)] 131):=⟨_,rfl⟩
     have HGZ:Hid (Y.grownBy Z none):=by rw[hZ];exact World.grownBy_alloc _ _ none
     have HGZ1:Hid (W1.grownBy Z none):=aa HGY1.out HGZ.out
     have HBo:Hid (SeB Z Y.heap.size o):=by rw[hZ];exact ak _ _ _
     have HBe2:Hid (SeB Z nb e):=ai (aa HGY.out HGZ.out) HBe.out (by simp)
     have hml':(m:Int)<L.length:=by omega
     have Hml:Hid (m<L.length):=hml
     have hwm:wrap64 ((m:Int)+1)=(m:Int)+1:=by unfold wrap64;have:=Hl.out;omega
     have HMm:Hid (L.length - (intOf (.int .i64 ((m:Int)+1))).toNat<L.length - (intOf (.int .i64 (m:Int))).toNat):=bQ hml
     clear ho R hml hm
     go_upto_region 7 with fail
     rw[←hZ]
     obtain⟨nc,hnc⟩:∃ nc,nc=Y.heap.size:=⟨_,rfl⟩
     rw[←hnc] at HBo ⊢
     clear hZ hnc c0 c1 c2 c3 c4 c5 c6 c7 c8 c9 c10
     by_cases hkm:k=m
     ·have ek:((k:Int) != (m:Int))=false:=by rw[hkm];simp
      have HF2:Hid (∀ j,j<m+1→k=j∨eX (rws X) F (L.getD k Se.none) (L.getD j Se.none)=false):=fun j hj=>by
       by_cases q:j=m
       ·exact Or.inl (hkm.trans q.symm)
       ·exact HFr.out j (by omega)
      clear hkm
      go_wp2_with fail
      go_roundw
      case rel=>exact⟨m+1,Hml.out,by first | rfl | (rw[hwm];rfl) | go_num,HF2.out,aa HGY.out HGZ.out⟩
      case measure=>first | exact HMm.out | (rw[hwm];exact HMm.out)
     ·have ek:((k:Int) != (m:Int))=true:=by simp;omega
      have HC:=jW _ _ X F e o Z (HT.out.keep HGZ1.out) (by rw[He.out];exact Hr.out k Hlt.out) (by rw[Ho.out];exact Hr.out m Hml.out)
      obtain⟨d,hd⟩:∃ d,d=eX (rws X) F e o:=⟨_,rfl⟩
      have Hd:Hid (d=eX (rws X) F (L.getD k Se.none) (L.getD m Se.none)):=by show _=_;rw[hd,He.out,Ho.out]
      have Hkm:Hid (¬k=m):=hkm
      rw[←hd] at HC
      unfold tbv sev at HC
      obtain⟨a0,a1⟩:=bH (show TbB Z n0 _ _ from ai HGZ1.out HB.out (by simp))
      obtain⟨s0,s1,s2,s3,s4,s5,s6,s7,s8,s9,s10⟩:=dU HBe2.out
      obtain⟨o0,o1,o2,o3,o4,o5,o6,o7,o8,o9,o10⟩:=dU HBo.out
      clear hd hkm
      cases d with
      | true =>
       have HX:Hid (∀ i,i<k+1→bI (rws X) F L i=false):=fun i hi=>by
        by_cases q:i=k
        ·rw[q];exact zq Hml.out Hkm.out Hd.out.symm
        ·exact HF.out i (by omega)
       go_wp2_with (go_at_call 136;refine HC.mono ?_;rintro e5 w5 ⟨rfl,g5⟩;have HG5:Hid (Z.grownBy w5 none):=g5;clear HC g5 a0 a1 s0 s1 s2 s3 s4 s5 s6 s7 s8 s9 s10 o0 o1 o2 o3 o4 o5 o6 o7 o8 o9 o10)
       go_roundw
       case rel=>exact⟨k+1,Hlt.out,by first | rfl | (rw[hwk];rfl) | go_num,HX.out,aa HGZ1.out HG5.out⟩
       case measure=>first | exact HM.out | (rw[hwk];exact HM.out)
      | false =>
       have HF2:Hid (∀ j,j<m+1→k=j∨eX (rws X) F (L.getD k Se.none) (L.getD j Se.none)=false):=fun j hj=>by
        by_cases q:j=m
        ·rw[q];exact Or.inr Hd.out.symm
        ·exact HFr.out j (by omega)
       go_wp2_with (go_at_call 136;refine HC.mono ?_;rintro e5 w5 ⟨rfl,g5⟩;have HG5:Hid (Z.grownBy w5 none):=g5;clear HC g5 a0 a1 s0 s1 s2 s3 s4 s5 s6 s7 s8 s9 s10 o0 o1 o2 o3 o4 o5 o6 o7 o8 o9 o10)
       refine⟨⟨m+1,Hml.out,by first | rfl | (rw[hwm];rfl) | go_num,HF2.out,aa HGY.out (aa HGZ.out HG5.out)⟩,?_⟩
       first | exact HMm.out | (rw[hwm];exact HMm.out)
    ·obtain rfl:m=L.length:=by omega
     have HX:Hid (bX (rws X) F L=k):=rz Hlt.out HF.out (xR HFr.out)
     clear hml hm
     go_wp2_with fail
     try rw[Exit.noGoto_ret]
     go_ret
     exact⟨by rw[HX.out];rfl,aa HG1.out HGY1.out⟩
  ·obtain rfl:k=L.length:=by omega
   have HX:Hid (bX (rws X) F L=0):=mq HF.out
   clear hlt hk
   go_wp2_with fail
   try rw[Exit.noGoto_ret]
   go_ret
   exact⟨by rw[HX.out];rfl,aa HG1.out HG.out⟩
theorem iz {j:Nat} (h:j≤4096):IntKind.i64.wrap (j:Int)=(j:Int):=IntWalk.i64_in _ (by omega)
theorem jn {j:Nat} (h:j≤4096):wrap64 (j:Int)=(j:Int):=by unfold wrap64;omega
theorem aW {k:Nat} (h:k≤4096):wrap64 ((k:Int)+1)=(k:Int)+1:=by unfold wrap64;omega
theorem l3 {a b c:Nat} (h:a<b) (h':b≤c):some a≠some c:=fun q=>by have:=Option.some.inj q;omega
theorem kV (fs:List Fe) (R:List Rw) (F:List Fe) (k:Nat):jm fs R F (k+1)=(jm fs R F k).set ((R.getD k Rw.none).nu - 1).toNat (F.getD k Fe.none):=by
 unfold jm
 rw[List.range_succ,List.foldl_append]
 rfl
theorem gW (fs:List Fe) (R:List Rw) (F:List Fe):∀ k,(jm fs R F k).length=fs.length
 | 0=>rfl
 | k+1=>by rw[kV,List.length_set,gW fs R F k]
structure AmS (w wr:World) (n0 B:Nat) (vr vf v:Value) (L:List Fe):Prop where
 tb:TbB wr n0 vr vf
 fo:dt wr B v L
 gr:w.grownBy wr none
theorem AmS.grow {w wr wr':World} {n0 B:Nat} {vr vf v:Value} {L:List Fe} (h:AmS w wr n0 B vr vf v L) (g:wr.grownBy wr' none):AmS w wr' n0 B vr vf v L:=⟨ai g h.tb (by simp),h.fo.grow g,aa h.gr g⟩
theorem AmS.set {w wr:World} {n0 B g n cap k:Nat} {vr vf:Value} {L:List Fe} (h:AmS w wr n0 B vr vf (.slice (some ⟨g,0,none⟩) n cap) L) (hn:L.length=n) (hk:k<n) (hB:n0<B∧w.heap.size≤B) (f:Fe):AmS w (wr.setCells g (k*5) (fec f)) n0 B vr vf (.slice (some ⟨g,0,none⟩) n cap) (L.set k f):=by
 obtain⟨o,q⟩:=aB.Own.set h.fo hn hk f
 have hg:B≤g:=(h.fo.lt g rfl).1
 exact⟨ai q h.tb (by simp;omega),o,az h.gr q (fun y e=>by cases e;omega)⟩
theorem nl (vr vf v:Value) (X:List Rv) (F fs:List Fe) (w:World) (T:dS w vr vf X F) (A:feR.At w v fs) (hn:∀ i,i<X.length→1≤((rws X).getD i Rw.none).nu∧((rws X).getD i Rw.none).nu≤(fs.length:Int)) (hl:fs.length≤4096):Calls Tryz.prog 71 #[tbv vr vf,v] w fun e' w'=>∃ v',e'=.returned v'∧dt w' w.heap.size v' (cJ fs (rws X) F)∧w.grownBy w' none:=by
 obtain⟨pr,cr,rfl⟩:=T.rows.form
 obtain⟨pf,cf,rfl⟩:=T.fs.form
 obtain⟨pl,cl,rfl⟩:=A.form
 obtain⟨W1,hW1⟩:∃ W1,W1=w.alloc (.cells #[.slice pr X.length cr,.slice pf F.length cf] 125):=⟨_,rfl⟩
 have HG1:Hid (w.grownBy W1 none):=by rw[hW1];exact World.grownBy_alloc _ _ none
 have HB:Hid (TbB W1 w.heap.size (.slice pr X.length cr) (.slice pf F.length cf)):=by rw[hW1];exact ak w _ _
 have HT:Hid (dS w (.slice pr X.length cr) (.slice pf F.length cf) X F):=T
 have HCl:=ns _ fs W1 (A.keep HG1.out) (by omega)
 have HNu:Hid (∀ i,i<X.length→1≤((rws X).getD i Rw.none).nu∧((rws X).getD i Rw.none).nu≤(fs.length:Int)):=hn
 have Hl:Hid (fs.length≤4096):=hl
 have H16:Hid (X.length≤16):=T.few
 have HLF:Hid (F.length=X.length):=T.len
 unfold tbv
 clear T A hn hl
 go_enter Tryz.func71,Tryz.ntmps71
 go_upto_region 1 with fail
 rw[←hW1]
 clear hW1
 obtain⟨n0,h0⟩:∃ n0,n0=w.heap.size:=⟨_,rfl⟩
 simp only[←h0] at HB ⊢
 clear h0
 go_wp2_with fail
 refine HCl.mono ?_
 rintro e2 w2 ⟨v2,rfl,o2,g2⟩
 obtain⟨p2,c2,rfl⟩:=o2.form
 have HBd:Hid (n0<W1.heap.size∧w.heap.size≤W1.heap.size):=⟨bn HB.out,HG1.out.size⟩
 have HA:Hid (AmS w w2 n0 W1.heap.size (.slice pr X.length cr) (.slice pf F.length cf) (.slice p2 fs.length c2) fs):=⟨ai g2 HB.out (by simp),o2,aa HG1.out g2⟩
 have HG2:Hid (W1.grownBy w2 none):=g2
 obtain⟨a0,a1⟩:=bH HA.out.tb
 clear HCl o2 g2
 go_wp2_with fail
 clear a0 a1
 go_loopw [6,7,13] (fun _ _ i wr=>∃ k:Nat,k≤X.length∧i=.int .i64 (k:Int)∧AmS w wr n0 W1.heap.size (.slice pr X.length cr) (.slice pf F.length cf) (.slice p2 fs.length c2) (jm fs (rws X) F k)) (fun _ _ i _=>X.length - (intOf i).toNat)
 case atStart=>exact⟨0,Nat.zero_le _,rfl,HA.out⟩
 case round =>
  clear HA
  obtain⟨k,hk,rfl,A⟩:=hrel
  obtain⟨U,hU⟩:∃ U,U=wr:=⟨_,rfl⟩
  subst hU
  by_cases hlt:k<X.length
  ·have hnu:=HNu.out k hlt
   obtain⟨gl,cap,el,hgl,-,-,-,-⟩:=cc A.fo (show 0<(jm fs (rws X) F k).length by rw[gW];omega)
   rw[gW] at el
   cases el
   have HTU:=HT.out.keep A.gr
   obtain⟨g,off,cap,e1,R⟩:=HTU.row hlt
   cases e1
   obtain⟨gf,fof,fcap,e2,RF⟩:=HTU.fe hlt
   cases e2
   obtain⟨gf',fof',fcap',e3,RF0⟩:=HT.out.fe hlt
   cases e3
   obtain⟨x,hx⟩:∃ x,x=X[k]:=⟨_,rfl⟩
   rw[←hx] at R
   have en:((rws X).getD k Rw.none).nu=x.r.nu:=by rw[fA hlt,←hx]
   rw[en] at hnu
   obtain⟨j,hj⟩:∃ j:Nat,x.r.nu=(j:Int)+1:=⟨(x.r.nu - 1).toNat,by omega⟩
   have hjl:j<fs.length:=by omega
   obtain⟨f,hf⟩:∃ f,f=F.getD k Fe.none:=⟨_,rfl⟩
   rw[←hf] at RF
   have HY:Hid (jm fs (rws X) F (k+1)=(jm fs (rws X) F k).set j f):=by show _=_;rw[kV,en,hj,←hf,show ((j:Int)+1 - 1).toNat=j by omega]
   have HA:Hid (AmS w U n0 W1.heap.size (.slice (some ⟨g,off,none⟩) X.length cr) (.slice (some ⟨gf,fof,none⟩) F.length cf) (.slice (some ⟨gl,0,none⟩) fs.length c2) (jm fs (rws X) F k)):=A
   have HLn:Hid ((jm fs (rws X) F k).length=fs.length):=gW _ _ _ _
   obtain⟨c0,c1,c2',c3,c4,c5,c6,c7,c8,c9,c10⟩:=eK R
   have c10':U.cell? ⟨g,off+k*11+10,none⟩=some (.slice x.pa x.r.ps.length x.ca):=c10
   obtain⟨V,hV⟩:∃ V,V=U.alloc (.cells #[.int .i64 x.r.nu,.int .i64 x.r.st,.string x.r.h.nm,.int .u8 x.r.h.su,.int .u8 x.r.h.kd,.int .i64 x.r.h.co,.int .i64 x.r.h.po,.int .i64 x.r.h.he,.int .u16 x.r.h.tr,.bool x.r.h.tk,.slice x.pa x.r.ps.length x.ca] 230):=⟨_,rfl⟩
   have HGV:Hid (U.grownBy V none):=by rw[hV];exact World.grownBy_alloc _ _ none
   have z0:V.cell? ⟨U.heap.size,0,none⟩=some (.int .i64 ((j:Int)+1)):=by rw[hV,←hj];exact(ae (ak _ _ _) 0).trans rfl
   obtain⟨f0,f1,f2,f3,f4⟩:=bJ (ba RF HGV.out)
   obtain⟨a0,a1⟩:=bH (show TbB V n0 _ _ from ai HGV.out A.tb (by simp))
   have hgl2:gl<U.heap.size:=(A.fo.lt gl rfl).2
   have hgf:gf<w.heap.size:=World.block_lt_of_cell? _ _ (bJ RF0).1
   have d0:some n0≠some gl:=l3 HBd.out.1 hgl
   have dr:some U.heap.size≠some gl:=fun q=>absurd (Option.some.inj q) (Nat.ne_of_gt hgl2)
   have df:some gf≠some gl:=l3 (Nat.lt_of_lt_of_le hgf HBd.out.2) hgl
   have hw1:=iz (j:=j) (Nat.le_trans (Nat.le_of_lt hjl) Hl.out)
   have hw2:=jn (j:=j) (Nat.le_trans (Nat.le_of_lt hjl) Hl.out)
   have hjl':(j:Int)<fs.length:=Int.ofNat_lt.2 hjl
   have Hjl:Hid (j<fs.length):=hjl
   have hlt':(k:Int)<X.length:=Int.ofNat_lt.2 hlt
   have hkf:(k:Int)<F.length:=by rw[HLF.out];exact Int.ofNat_lt.2 hlt
   have hwk:=aW (k:=k) (Nat.le_trans (Nat.le_of_lt hlt) (Nat.le_trans H16.out (by decide)))
   have Hlt:Hid (k<X.length):=hlt
   have HM:Hid (X.length - (intOf (.int .i64 ((k:Int)+1))).toNat<X.length - (intOf (.int .i64 (k:Int))).toNat):=bQ hlt
   clear A R RF RF0 hx en hj hf c10 hgl hgl2 hgf hnu HTU hlt hk hjl
   go_upto_region 5 with fail
   rw[←hV]
   clear hV c0 c1 c2' c3 c4 c5 c6 c7 c8 c9 c10'
   obtain⟨nb,hnb⟩:∃ nb,nb=U.heap.size:=⟨_,rfl⟩
   rw[←hnb] at z0 dr ⊢
   clear hnb
   refine wp_region_held_drew (S:=fun w'=>V.grownBy w' (some gl)) (by kernel_rfl) (bP _ _) (fun hHeld=>?_)
   refine QZ 0 rfl ?_
   go_frame
   refine QZ 1 rfl ?_
   go_frame
   refine QT 2 rfl (by intro w0 hSw;have z0:=hSw.cell z0 dr;go_simp;try with_reducible rfl) ?_
   go_frame
   refine QZ 3 rfl ?_
   go_frame
   refine QZ 4 rfl ?_
   go_frame
   refine QT 5 rfl (by intro w0 hSw;have a1:=hSw.cell a1 d0;go_simp;try with_reducible rfl) ?_
   go_frame
   refine QZ 6 rfl ?_
   go_frame
   refine QZ 7 rfl ?_
   go_frame
   refine QT 8 rfl (by intro w0 hSw;have f0:=hSw.cell f0 df;have f1:=hSw.cell f1 df;have f2:=hSw.cell f2 df;have f3:=hSw.cell f3 df;have f4:=hSw.cell f4 df;go_simp;try with_reducible rfl) ?_
   go_frame
   refine QZ 9 rfl ?_
   go_frame
   refine QR 10 rfl (fun K9 hK=>?_)
   have HA3:Hid (AmS w V.drew n0 W1.heap.size (.slice (some ⟨g,off,none⟩) X.length cr) (.slice (some ⟨gf,fof,none⟩) F.length cf) (.slice (some ⟨gl,0,none⟩) fs.length c2) (jm fs (rws X) F k)):=HA.out.grow (aa HGV.out (ag _))
   refine wp_store_mid 122 (.tmp 27) (.tmp 26) rfl gl (j*5) (fec f).toArray rfl rfl (aB.Own.there HA3.out.fo HLn.out Hjl.out) (by kernel_rfl) (all_oneCell_toArray (n7 f)) ?_
   refine hK.out _ _ (aa (bP _ _) (aB.Own.set HA3.out.fo HLn.out Hjl.out f).2) (fun hHeld3=>?_)
   clear hK K9
   (try go_frame)
   refine QD ?_
   have HA4:Hid (AmS w (V.drew.setCells gl (j*5) (fec f)) n0 W1.heap.size (.slice (some ⟨g,off,none⟩) X.length cr) (.slice (some ⟨gf,fof,none⟩) F.length cf) (.slice (some ⟨gl,0,none⟩) fs.length c2) ((jm fs (rws X) F k).set j f)):=HA3.out.set HLn.out Hjl.out HBd.out f
   obtain⟨Z,hZ⟩:∃ Z,Z=V.drew.setCells gl (j*5) (fec f):=⟨_,rfl⟩
   rw[←hZ] at HA4
   clear hHeld hHeld3 a0 a1 f0 f1 f2 f3 f4 z0
   rw[show V.drew.setCells gl (j*5) (fec f).toArray.toList=Z from hZ.symm]
   clear hZ
   go_wp2_with fail
   go_roundw
   case rel=>exact⟨k+1,Hlt.out,by first | rfl | (rw[hwk];rfl) | go_num,by rw[HY.out];exact HA4.out⟩
   case measure=>first | exact HM.out | (rw[hwk];exact HM.out)
  ·obtain rfl:k=X.length:=by omega
   have HF:Hid (dt U w.heap.size (.slice p2 fs.length c2) (cJ fs (rws X) F)∧w.grownBy U none):=⟨by unfold cJ;rw[cm];exact aT A.fo HBd.out.2,A.gr⟩
   clear A hk hlt
   go_wp2_with fail
   go_ret
   exact⟨_,rfl,HF.out⟩
end Go.Proofs.YtjmepebbcnhalaaGreat
