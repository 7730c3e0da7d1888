import Derived.Test.YtjmepebbcnhalaaGreatZ5
import Derived.Laws.CopyOwn
import Derived.Lib.MinMaxS
namespace Go.Proofs.YtjmepebbcnhalaaGreat
open Tryz
open Go.RowKit
variable {P:Program} {ops:Array Oper} {w:World} {Q:Exit→Act→World→Prop} {b m base:Nat} {es:List Ent} {junk:List Value} {p:Pl} {v:Value} {ps:List Pt}
theorem zC (w:World) (dT sT ty elem:TypeId) (g o dLen dCap:Nat) (a:Addr) (sLen sCap:Nat) (cur:Array Value) (t:TypeId) (cs:List Value)
  (hu:P.underlying dT=some (.slice elem)) (hs:(P.info? elem).map (·.size)=some 9)
  (hg:w.heap[g]?=some (.cells cur t (0,0))) (hn:cs.length=Nat.min sLen dLen*9)
  (hsrc:∀ j v,cs[j]?=some v→w.cell? (a.add j)=some v) (hfit:o+cs.length≤cur.size) (h1:∀ v∈cs,v.oneCell'=true) :
  (Builtin.copy_ #[dT,sT] ty #[.slice (some ⟨g,o,none⟩) dLen dCap,.slice (some a) sLen sCap]).run P w =
   .ok (goInt (Nat.min sLen dLen)) (w.setRow g (cur.toList.take o++cs++cur.toList.drop (o+cs.length)).toArray):=by
 have hl:=run_loadCells_list (P:=P) w a cs hsrc;have hst:=run_storeCells_at P g o t cs 0 cur w hg (by simpa using hfit) h1;cases hq:P.info? elem with
 | none=>simp[hq] at hs
 | some i =>
  have hi:i.size=9:=by simpa [hq] using hs
  rw[hn] at hl;simp[Builtin.copy_,run_underlying hu,Builtin.lenOf,Builtin.firstCells,sizeOf,typeInfo,hq,hi,hl,hst]
theorem ph (w:World) (dT sT ty elem:TypeId) (d a:Option Addr) (dLen dCap sLen sCap:Nat) (hu:P.underlying dT=some (.slice elem)) (hs:(P.info? elem).map (·.size)=some 9) (hn:Nat.min sLen dLen=0) :
  (Builtin.copy_ #[dT,sT] ty #[.slice d dLen dCap,.slice a sLen sCap]).run P w=.ok (goInt 0) w:=by
 cases hq:P.info? elem with
 | none=>simp[hq] at hs
 | some i =>
  have hn':min sLen dLen=0:=hn;cases d <;> cases a <;> simp[Builtin.copy_,run_underlying hu,Builtin.lenOf,Builtin.firstCells,sizeOf,typeInfo,hq,hn',loadCells,loadCellsFrom,storeCells]
theorem As (w:World) (g:Nat) (cs:Array Value):w.grownBy (w.setRow g cs) (some g) :=
 ⟨rfl,rfl,rfl,by simp[World.setRow],fun k _ hk=>setRow_other w g k cs (fun e=>hk (by rw[e]))⟩
theorem wM {o:Oper} {a:Act} {K:Act→World→Prop} {E:Prop} (hgd:o.guard=none) (d s:Operand) (dT sT:TypeId)
  (ho:o.op=.call { callee:=.builtin .copy,args:=#[d,s],argTypes:=#[dT,sT] }) (elem:TypeId) (hu:P.underlying dT=some (.slice elem)) (hsz:(P.info? elem).map (·.size)=some 9)
  (dp sp:Option Addr) (dLen dCap sLen sCap:Nat) (hd:a.eval d=.slice dp dLen dCap) (hs:a.eval s=.slice sp sLen sCap)
  (g off:Nat) (cur:List Value) (t:TypeId) (hg:w.heap[g]?=some (.cells cur.toArray t (0,0))) (cs:List Value) (hn:cs.length=Nat.min sLen dLen*9)
  (hpos:0<cs.length→dp=some ⟨g,off,none⟩∧∃ ad,sp=some ad∧∀ j v,cs[j]?=some v→w.cell? (ad.add j)=some v)
  (hfit:off+cs.length≤cur.length) (h1:∀ v∈cs,v.oneCell'=true)
  (h:∀ w',QH (w'.heap[g]?=some (.cells (splice cur off cs).toArray t (0,0)))→QH (w.grownBy w' (some g))→K (a.put o.dst (goInt (Nat.min sLen dLen))) w') :
  if Region.wanted o (yielded ops a.tmps)=true then Oper.wp P o a w K Q else E:=by
 have hw:Region.wanted o (yielded ops a.tmps)=true:=by simp[Region.wanted,hgd]
 rw[if_pos hw];by_cases h0:cs.length=0
 ·obtain rfl:cs=[]:=Qay h0;have hz:Nat.min sLen dLen=0:=by simp only[List.length_nil] at hn;omega
  have hrun:=ph (P:=P) w dT sT o.type elem dp sp dLen dCap sLen sCap hu hsz hz;rw[hz] at h;unfold Oper.wp;simp[execOp,ho,resolve,invoke,builtin,hd,hs,hrun,Result.andThen];exact h w (show _=_ by simpa [splice] using hg) (aw _ _)
 ·obtain⟨rfl,ad,rfl,hsrc⟩:=hpos (by omega);have hrun:=zC (P:=P) w dT sT o.type elem g off dLen dCap ad sLen sCap cur.toArray t cs hu hsz hg hn hsrc (by simpa using hfit) h1;unfold Oper.wp;simp[execOp,ho,resolve,invoke,builtin,hd,hs,hrun,Result.andThen];exact h _ (show _=_ by simpa [splice] using setRow_heap w g _ _ t _ hg) (As _ _ _)
theorem nG:∀ (es:List Ent),Slc es→∀ u∈aH es,u.oneCell'=true
 | [],_,u,h=>by simp[aH] at h
 | e :: r,hs,u,h=>by
  rcases Qd2.1 h with h | h
  ·obtain⟨a,n,c,hv⟩:=hs e (by simp);simp only[cvs,List.mem_cons,List.not_mem_nil,or_false] at h
   rcases h with rfl | rfl | rfl | rfl | rfl | rfl | rfl | rfl | rfl <;> first | rfl | (rw[hv];rfl)
  ·exact nG r (fun x hx=>hs x (by simp[hx])) u h
theorem yA {α:Type} {X:List α} (h:X.length=9):∃ a b c d e f g i j,X=[a,b,c,d,e,f,g,i,j]:=by
 match X,h with
 | [a,b,c,d,e,f,g,i,j],_=>exact⟨a,b,c,d,e,f,g,i,j,rfl⟩
theorem D3 (A X B:List Value) (n:Nat) (hA:A.length=n) (hX:X.length=9) (x0 x1 x2 x3 x4 x5 x6 x7 x8:Value):(((((((((A++(X++B)).set n x0).set (n+1) x1).set (n+2) x2).set (n+3) x3).set (n+4) x4).set (n+5) x5).set (n+6) x6).set (n+7) x7).set (n+8) x8=A++([x0,x1,x2,x3,x4,x5,x6,x7,x8]++B):=by
 obtain⟨a,b,c,d,e,f,g,i,j,rfl⟩:=yA hX;subst hA;simp[List.set_append_right]
theorem yl {A X B:List Value} {t:TypeId} (h:w.heap[b]?=some (.cells (A++(X++B)).toArray t (0,0))) (n:Nat) (hA:A.length=n) (hX:X.length=9) (c:Hd) (v:Value):(gy w b n c v).heap[b]?=some (.cells (A++(cvs c v++B)).toArray t (0,0)):=by
 have e0:=au h (n) (.string c.nm);rw[Qa6] at e0;have e1:=au e0 (n+1) (.int .u8 c.su);rw[Qa6] at e1;have e2:=au e1 (n+2) (.int .u8 c.kd);rw[Qa6] at e2;have e3:=au e2 (n+3) (.int .i64 c.co);rw[Qa6] at e3;have e4:=au e3 (n+4) (.int .i64 c.po);rw[Qa6] at e4;have e5:=au e4 (n+5) (.int .i64 c.he);rw[Qa6] at e5;have e6:=au e5 (n+6) (.int .u16 c.tr);rw[Qa6] at e6;have e7:=au e6 (n+7) (.bool c.tk);rw[Qa6] at e7;have e8:=au e7 (n+8) (v);rw[Qa6] at e8;rw[D3 A X B n hA hX] at e8;exact e8
theorem sM (es:List Ent) (junk T:List Value) (m:Nat) (hm:m≤es.length) (hj:9≤junk.length):∃ X,X.length=9∧splice (aH es++(junk++T)) ((m+1)*9) (aH (es.drop m))=aH (es.take m)++(X++(aH (es.drop m)++(junk.drop 9++T))):=by
 obtain⟨E1,h1⟩:=Qe (es.take m);obtain⟨E2,h2⟩:=Qe (es.drop m);have he:es=E1++E2:=by rw[h1,h2,Qcw]
 have l1:E1.length=m:=by rw[h1,Qam];omega
 rw[←h1,←h2];clear h1 h2;subst he;subst l1;rw[gG];refine⟨(aH E2++junk).take 9,by rw[Qam,Qa];omega,?_⟩;unfold splice
 have t1:(aH E1++aH E2++(junk++T)).take ((E1.length+1)*9)=aH E1++(aH E2++junk).take 9:=by
  rw[show aH E1++aH E2++(junk++T)=aH E1++((aH E2++junk)++T) by simp,List.take_append,aP];rw[Qba (by rw[aP];omega)];rw[show (E1.length+1)*9 - E1.length*9=9 by omega];rw[List.take_append_of_le_length (by rw[Qa];omega)]
 have t2:(aH E1++aH E2++(junk++T)).drop ((E1.length+1)*9+(aH E2).length)=junk.drop 9++T:=by
  rw[show aH E1++aH E2++(junk++T)=(aH E1++aH E2)++(junk++T) by simp,List.drop_append,List.drop_of_length_le (by rw[Qa,aP,aP];omega)];rw[Qa,aP,aP,show (E1.length+1)*9+E2.length*9 - (E1.length*9+E2.length*9)=9 by omega];rw[Qaz,Qc4 hj]
 rw[t1,t2];simp
set_option maxRecDepth 100000
set_option maxHeartbeats 2000000
theorem zM (w:World):w.drew.heap=w.heap:=rfl
theorem fq {A X B:List Value} {t:TypeId} (h:w.heap[b]?=some (.cells (A++(X++B)).toArray t (0,0))) {n k:Nat} {y:Value} (hA:A.length=n) (hk:X[k]?=some y):w.cell? ⟨b,n+k,none⟩=some y:=by
 rw[ae h,Qbc,Qap (by omega),hA,show n+k - n=k by omega,Qb1 (Qh hk).1];exact hk
theorem Cz {e:Ent} (hm:m≤es.length) (hf:es.length*9+junk.length=576) (hj:9≤junk.length) (h9:p.nms.length=9) (h5:p.mks.length=5) (h:w.heap[b]?=some (.cells (aH (es.take m)++(cvs e.h e.v++(aH (es.drop m)++(junk.drop 9++plc es.length p)))).toArray 196 (0,0))) :
  w.cell? ⟨b,578,none⟩=some (.int .i64 (es.length:Int))∧BkJ (w.setCell ⟨b,578,none⟩ (.int .i64 ((es.length:Int)+1))) b (es.take m++e :: es.drop m) (junk.drop 9) p:=by
 have e1:aH (es.take m++e :: es.drop m)=aH (es.take m)++(cvs e.h e.v++aH (es.drop m)):=by rw[gG];rfl
 have l1:(es.take m++e :: es.drop m).length=es.length+1:=by simp;omega
 have e2:aH (es.take m)++(cvs e.h e.v++(aH (es.drop m)++(junk.drop 9++plc es.length p)))=aH (es.take m++e :: es.drop m)++(junk.drop 9++plc es.length p):=by rw[e1];simp
 rw[e2] at h;obtain⟨L,hL⟩:=Qe (es.take m++e :: es.drop m);rw[←hL] at h l1 ⊢;clear e1 e2 hL;have lj:(junk.drop 9).length=junk.length - 9:=Qbx ..;constructor
 ·rw[ae h,Qbc,Qap (by rw[aP];omega),Qap (by rw[aP];omega),aP,lj,l1,show 578 - (es.length+1)*9 - (junk.length - 9)=2 by omega];rfl
 ·refine⟨?_,by rw[lj,l1];omega,h9,h5⟩;rw[au h,Qa6]
  congr 2
  unfold jU;rw[Qb6 _ _ (by rw[aP];omega),Qb6 _ _ (by rw[aP];omega),aP,lj,l1,show 578 - (es.length+1)*9 - (junk.length - 9)=2 by omega];rfl
theorem xG (b:Nat) (es:List Ent) (p:Pl) (h:Hd) (v:Value) (ps:List Pt) (m:Nat) (w:World) (hB:ee w b es p) (hs:Slc es) (hv:∃ a n c,v=.slice a n c) (hl:es.length<64) (hA:jE es h m) (hm:m≤es.length):Calls prog 113 #[.pointer (some ⟨b,0,none⟩),cv h v] w fun e w'=>(∃ r,e=.returned r)∧ee w' b (es.take m++⟨h,v,ps⟩ :: es.drop m) p∧w.grownBy w' (some b):=by
 obtain⟨a,n,c,rfl⟩:=hv;obtain⟨junk,J⟩:=hB;obtain⟨W1,hW1⟩:=Qe (w.alloc (.cells (ccs h (.slice a n c)) 111));have HG1:QH (w.grownBy W1 none):=by rw[hW1];exact QG
 have HC1:QH (CAt W1 w.heap.size h (.slice a n c)):=by rw[hW1];exact aj w _ _
 have HJ1:QH (BkJ W1 b es junk p):=J.keep HG1.o;have hbs:b<w.heap.size:=aY J.lies;have HS:QH (Slc es):=hs;have HM:QH (jE es h m):=hA;have hfit:=J.fit;obtain⟨c0,c1,c2,c3,c4,c5,c6,c7,c8⟩:=HC1.o.cells;unfold ccs at hW1;unfold cv;clear J hs hA;go_enter func113,ntmps113;go_upto_region 1 with fail;rw[←hW1];clear hW1;go_cut [4] from 5 to 12 (fun v4 wc=>v4=.int .i64 m∧W1.grownBy wc none)
 case first =>
  go_region_with (first | (go_at_call 126;refine(l0 b es.length (by omega) p _ (HJ1.o.keep (ai _)).flags).mono ?_;rintro e w2 ⟨rfl,g2,_⟩;have HG2:QH (W1.grownBy w2 none):=aa (ai _) g2;obtain⟨x0,x1,x2,x3,x4,x5,x6,x7,x8⟩:=(HC1.o.keep HG2.o).cells) | (go_at_call 178;refine(uW b 0 64 es h (.slice a n c) m _ (HJ1.o.keep HG2.o).row HS.o ⟨_,_,_,rfl⟩ HM.o (by omega) hm).mono ?_;rintro e w3 ⟨⟨f,rfl⟩,g3⟩;have HG3:QH (W1.grownBy w3 none):=aa HG2.o g3) | fail)
  all_goals
   go_wp2_with fail;go_meet
   case rel=>exact⟨rfl,HG3.o⟩
 case rest =>
  obtain⟨rfl,G⟩:=hcut;obtain⟨W3,hW3⟩:=Qe (wc);subst hW3;have HG3:QH (W1.grownBy W3 none):=G;clear G c0 c1 c2 c3 c4 c5 c6 c7 c8;have J3:=HJ1.o.keep HG3.o;have k3:=J3.flags.count;have m0:(0:Int)≤(m:Int):=by omega
  have m1:(m:Int)≤(es.length:Int):=by omega
  have m2:(m:Int)≤64:=by omega
  have m3:(es.length:Int)≤64:=by omega
  have m4:wrap64 ((m:Int)+1)=(m:Int)+1:=by unfold wrap64;omega
  have m5:(m:Int)+1≤64:=by omega
  have m7:IntKind.i64.wrap ((m:Int)+1)=(m:Int)+1:=by rw[IntKind.wrap_i64];omega
  have m8:((m:Int)+1).toNat=m+1:=by omega
  have k3':W3.drew.cell? ⟨b,578,none⟩=some (.int .i64 (es.length:Int)):=k3;have m6:(0:Int)≤(m:Int)+1:=by omega
  obtain⟨X,hX,hSp⟩:=sM es junk (plc es.length p) m hm (by omega);have HSp:QH (splice (aH es++(junk++plc es.length p)) ((m+1)*9) (aH (es.drop m))=aH (es.take m)++(X++(aH (es.drop m)++(junk.drop 9++plc es.length p)))):=hSp;clear hSp;go_upto_region 2 with fail;go_cut [] from 13 to 29 (fun wc=>wc.heap[b]?=some (.cells (aH (es.take m)++(X++(aH (es.drop m)++(junk.drop 9++plc es.length p)))).toArray 196 (0,0))∧W3.grownBy wc (some b))
  case first =>
   have hmin:Nat.min (es.length - m) (63 - m)=es.length - m:=Qbv (by omega);have L3:W3.drew.heap[b]?=some (.cells (aH es++(junk++plc es.length p)).toArray 196 (0,0)):=J3.lies;have HL3:QH (W3.drew.heap[b]?=some (.cells (aH es++(junk++plc es.length p)).toArray 196 (0,0))):=L3
   have HP3:QH (0<(aH (es.drop m)).length→(some (if m=63 then (⟨b,0,none⟩:Addr) else ⟨b,(m+1)*9,none⟩))=some ⟨b,(m+1)*9,none⟩∧∃ ad,(some (if 64=m then (⟨b,0,none⟩:Addr) else ⟨b,m*9,none⟩))=some ad∧∀ j v,(aH (es.drop m))[j]?=some v→W3.drew.cell? (ad.add j)=some v):=by
    intro h0;rw[aP,Qbx] at h0;refine⟨by rw[if_neg (by omega)],⟨b,m*9,none⟩,by rw[if_neg (by omega)],fun j v hv=>?_⟩;rw[dq,ae L3];have hj:j<(aH (es.drop m)).length:=(Qh hv).1;have e1:aH es=aH (es.take m)++aH (es.drop m):=(by rw[←gG,Qcw]);rw[e1,Qbc,Qb8,Qap (by rw[aP,Qam];omega),aP,Qam,Qbv hm,show m*9+j - m*9=j by omega,Qb1 hj];exact hv
   have HF3:QH ((m+1)*9+(aH (es.drop m)).length≤(aH es++(junk++plc es.length p)).length):=by
    unfold QH;rw[aP,Qbx,Qa,aP,Qa];omega
   have HN3:QH ((aH (es.drop m)).length=Nat.min (es.length - m) (63 - m)*9):=(by unfold QH;rw[aP,Qbx,hmin]);have H13:QH (∀ v∈aH (es.drop m),v.oneCell'=true):=nG _ (fun e he=>HS.o e (List.mem_of_mem_drop he));clear L3 J3 k3;go_region_law (refine wM rfl (.tmp 18) (.tmp 28) 22 22 rfl 111 underlying22 (by kernel_rfl) (some (if m=63 then (⟨b,0,none⟩:Addr) else ⟨b,(m+1)*9,none⟩)) (some (if 64=m then (⟨b,0,none⟩:Addr) else ⟨b,m*9,none⟩)) (63 - m) (63 - m) (es.length - m) (64 - m) (by simp[Act.eval,Act.put]) (by simp[Act.eval,Act.put]) b ((m+1)*9) _ 196 HL3.o (aH (es.drop m)) HN3.o HP3.o HF3.o H13.o ?_;intro w4 hg4 hb4);generalize (if m=63 then (⟨b,0,none⟩:Addr) else ⟨b,(m+1)*9,none⟩)=q1;generalize (if 64=m then (⟨b,0,none⟩:Addr) else ⟨b,m*9,none⟩)=q2;clear HP3;go_wp2_with fail;go_meet
   case rel =>
    refine⟨?_,aa (io _ _) hb4.o⟩;rw[←HSp.o];exact hg4.o
  case rest =>
   obtain⟨L,G⟩:=hcut;obtain⟨W4,hW4⟩:=Qe (wc);subst hW4;have HL4:QH (W4.heap[b]?=some (.cells (aH (es.take m)++(X++(aH (es.drop m)++(junk.drop 9++plc es.length p)))).toArray 196 (0,0))):=L;have HG4:QH (W1.grownBy W4 (some b)):=bi HG3.o G;have C4:=(HC1.o.keepR HG4.o (by simp;omega)).cells;obtain⟨c0,c1,c2,c3,c4,c5,c6,c7,c8⟩:=C4;have lA:(aH (es.take m)).length=m*9:=(by rw[aP,Qam,Qbv hm]);have n9:=J3.nine;have n5:=J3.five;have HX:QH (X.length=9):=hX;obtain⟨y0,y1,y2,y3,y4,y5,y6,y7,y8,hXe⟩:=yA hX;have z0:=fq (k:=0) (y:=y0) L lA (by rw[hXe];rfl);have z1:=fq (k:=1) (y:=y1) L lA (by rw[hXe];rfl);have z2:=fq (k:=2) (y:=y2) L lA (by rw[hXe];rfl);have z3:=fq (k:=3) (y:=y3) L lA (by rw[hXe];rfl);have z4:=fq (k:=4) (y:=y4) L lA (by rw[hXe];rfl);have z5:=fq (k:=5) (y:=y5) L lA (by rw[hXe];rfl);have z6:=fq (k:=6) (y:=y6) L lA (by rw[hXe];rfl);have z7:=fq (k:=7) (y:=y7) L lA (by rw[hXe];rfl);have z8:=fq (k:=8) (y:=y8) L lA (by rw[hXe];rfl);rw[Nat.add_zero] at z0;have zf:=fun i=>aq L i;have HlA:QH ((aH (es.take m)).length=m*9):=lA;have m10:(m:Int)<64:=(by omega);clear L G lA hX hXe J3 k3 k3' HSp HJ1;go_upto_region 3 with fail;go_cut [] from 30 to 35 (fun wc=>wc=(gy W4 b (m*9) h (.slice a n c)).drew)
   case first =>
    go_region;go_wp2_with fail;go_meet
    case rel=>first | rfl | (unfold gy;rfl)
   case rest =>
    obtain⟨W5,hW5⟩:=Qe (wc);subst hW5
    have L5:W5.heap[b]?=some (.cells (aH (es.take m)++(cvs h (.slice a n c)++(aH (es.drop m)++(junk.drop 9++plc es.length p)))).toArray 196 (0,0)):=by
     rw[hcut];rw[zM];exact yl HL4.o (m*9) HlA.o HX.o h (.slice a n c)
    have HG5:QH (W1.grownBy W5 (some b)):=by
     rw[hcut];exact aa (aa HG4.o (dc W4 b (m*9) h (.slice a n c))) (io (gy W4 b (m*9) h (.slice a n c)) (some b))
    obtain⟨k5,J6⟩:=Cz (e:=⟨h,.slice a n c,ps⟩) hm hfit (by omega) n9 n5 L5;have f5:=aq L5 578;have w5:wrap64 ((es.length:Int)+1)=(es.length:Int)+1:=(by unfold wrap64;omega);have HJ6:QH (BkJ (W5.setCell ⟨b,578,none⟩ (.int .i64 ((es.length:Int)+1))) b (es.take m++⟨h,.slice a n c,ps⟩ :: es.drop m) (junk.drop 9) p):=J6;clear L5 J6 hcut z0 z1 z2 z3 z4 z5 z6 z7 z8 zf c0 c1 c2 c3 c4 c5 c6 c7 c8 m0 m1 m2 m3 m4 m5 m6 m7 m8 m10 hl hm hfit hbs HL4 HG4 HX HlA n9 n5;go_wp2;go_end0;exact⟨⟨_,rfl⟩,⟨_,HJ6.o⟩,bi HG1.o (HG5.o.trans (al _ _ _ _))⟩
theorem Bt (s t:ByteArray):bLt s t=decide (s.data.toList<t.data.toList):=by
 unfold bLt;rw[Go.Proofs.bytesLess_eq,Lib.toList_data,Lib.toList_data]
theorem CZ {s t:ByteArray} (h:s.data.toList=t.data.toList):s=t:=iG (by rw[Lib.toList_data,Lib.toList_data,h])
def Ahd (a b:Hd):Prop:=a.su<b.su∨(a.su=b.su∧a.nm.data.toList<b.nm.data.toList)
theorem j6 (a b:Hd):ord a b<0↔Ahd a b:=by
 unfold ord orV cI cB Ahd;rw[Bt];by_cases h1:a.su<b.su
 ·simp[h1]
 ·by_cases h2:b.su<a.su
  ·have:¬a.su=b.su:=(by omega);simp[h1,h2,this]
  ·have e:a.su=b.su:=(by omega);rw[if_neg h1,if_neg h2,if_pos rfl];by_cases h3:a.nm.data.toList<b.nm.data.toList
   ·rw[Qy h3,if_pos rfl];exact⟨fun _=>Or.inr ⟨e,h3⟩,fun _=>by decide⟩
   ·rw[Qx h3,if_neg (by decide)];constructor
    ·intro h;split at h <;> omega
    ·rintro (h | ⟨_,h⟩)
     ·omega
     ·exact absurd h h3
theorem Ahd.irrefl (a:Hd):¬Ahd a a:=by
 rintro (h | ⟨_,h⟩)
 ·omega
 ·exact List.lt_irrefl _ h
theorem Ahd.trans {a b c:Hd} (h:Ahd a b) (k:Ahd b c):Ahd a c:=by
 rcases h with h | ⟨h,h'⟩ <;> rcases k with k | ⟨k,k'⟩
 ·exact Or.inl (by omega)
 ·exact Or.inl (by omega)
 ·exact Or.inl (by omega)
 ·exact Or.inr ⟨by omega,List.lt_trans h' k'⟩
theorem Ahd.tri {a b:Hd} (h:¬a.nm=b.nm):Ahd a b∨Ahd b a:=by
 rcases (show a.su<b.su∨b.su<a.su∨a.su=b.su by omega) with k | k | k
 ·exact Or.inl (Or.inl k)
 ·exact Or.inr (Or.inl k)
 ·by_cases h1:a.nm.data.toList<b.nm.data.toList
  ·exact Or.inl (Or.inr ⟨k,h1⟩)
  ·refine Or.inr (Or.inr ⟨k.symm,?_⟩);by_cases h2:b.nm.data.toList<a.nm.data.toList
   ·exact h2
   ·exact absurd (CZ (List.le_antisymm (List.not_lt.1 h2) (List.not_lt.1 h1))) h
def Srt (es:List Ent):Prop:=es.Pairwise fun a b=>Ahd a.h b.h
def rk:List Ent→Hd→Nat
 | [],_=>0
 | e :: r,h=>if ord e.h h<0 then rk r h+1 else 0
theorem FY:∀ (es:List Ent) (h:Hd),rk es h≤es.length
 | [],_=>Qj _
 | e :: r,h=>by
  have:=FY r h;simp only[rk,List.length_cons];split <;> omega
theorem vp:∀ (es:List Ent) (h:Hd),Srt es→jE es h (rk es h)
 | [],h,_,j,e,he=>by simp at he
 | x :: r,h,hs,j,e,he=>by
  unfold Srt at hs;rw[Qbq] at hs;simp only[rk];cases j with
  | zero =>
   obtain rfl:x=e:=(by simpa using he);split
   ·simp_all
   ·simp_all
  | succ j =>
   have he':r[j]?=some e:=(by simpa using he);split
   ·rw[vp r h hs.2 j e he'];omega
   ·rename_i hx;have hxe:=hs.1 e (Qm he');constructor
    ·intro k;rw[j6] at hx k;exact absurd (hxe.trans k) hx
    ·intro k;omega
def ins (es:List Ent) (e:Ent):List Ent:=es.take (rk es e.h)++e :: es.drop (rk es e.h)
theorem oM (x:Ent) (r:List Ent) (e:Ent):ins (x :: r) e=if ord x.h e.h<0 then x :: ins r e else e :: x :: r:=by
 unfold ins;simp only[rk];split <;> simp
theorem mN (es:List Ent) (e x:Ent):x∈ins es e↔x=e∨x∈es:=by
 induction es with
 | nil=>simp[ins]
 | cons y r ih =>
  rw[oM];split
  ·simp only[List.mem_cons,ih];constructor
   ·rintro (h | h | h) <;> simp[h]
   ·rintro (h | h | h) <;> simp[h]
  ·simp
theorem Ey (es:List Ent) (e:Ent) (hs:Srt es) (hn:∀ x∈es,¬x.h.nm=e.h.nm):Srt (ins es e):=by
 induction es with
 | nil=>simp[ins,Srt]
 | cons y r ih =>
  unfold Srt at hs ih ⊢;rw[Qbq] at hs;rw[oM];split
  ·rename_i hy;rw[j6] at hy;rw[Qbq];refine⟨fun x hx=>?_,ih hs.2 (fun x hx=>hn x (by simp[hx]))⟩
   rcases (mN r e x).1 hx with rfl | hx
   ·exact hy
   ·exact hs.1 x hx
  ·rename_i hy;rw[j6] at hy;have he:Ahd e.h y.h:=(Ahd.tri (hn y (by simp))).resolve_left hy;rw[Qbq];refine⟨fun x hx=>?_,by rw[Qbq];exact hs⟩
   rcases Qbo.1 hx with rfl | hx
   ·exact he
   ·exact he.trans (hs.1 x hx)
theorem ls:∀ (kd:Int) (ps:List Pt),eH kd ps=0→∀ p∈ps,chk p=0
 | kd,[],_,p,h=>by simp at h
 | kd,q :: r,h,p,hp=>by
  unfold eH at h;by_cases h1:chk q=0
  ·rw[if_neg (by simp[h1])] at h;by_cases h2:gz kd q.wn=false
   ·rw[if_pos h2] at h;omega
   ·rw[if_neg h2] at h
    rcases Qbo.1 hp with rfl | hp
    ·exact h1
    ·exact ls kd r h p hp
  ·rw[if_pos h1] at h;exact absurd h h1
theorem Bg {p:Pt} (h:chk p=0):p.nm.size≤20:=by
 unfold chk at h
 have hn:qg p=true:=by
  cases hq:qg p with
  | true=>rfl
  | false =>
   rw[hq] at h;split at h
   ·omega
   ·split at h
    ·omega
    ·split at h
     ·omega
     ·split at h
      ·omega
      ·simp at h
 rw[Lib.size_eq];unfold qg at hn;split at hn
 ·exact(iW hn).2
 ·have:=of_decide_eq_true hn;rw[this];simp
theorem jW {c:Cd} (h:gi c=0):c.nm.size≤20∧¬c.nm=⟨#[]⟩∧c.ps.length≤4∧(∀ p∈c.ps,p.nm.size≤20)∧1≤c.su∧c.su≤6:=by
 unfold gi at h;split at h
 ·omega
 ·rename_i h1;split at h
  ·omega
  ·rename_i h2;split at h
   ·omega
   ·split at h
    ·omega
    ·split at h
     ·omega
     ·rename_i h5
      have hn:aS c.nm.data.toList=true:=by cases hq:aS c.nm.data.toList with
       | true=>rfl
       | false=>exact absurd hq h1
      refine⟨by rw[Lib.size_eq];exact(iW hn).2,fun e=>?_,by omega,fun p hp=>Bg (ls _ _ h p hp),by omega,by omega⟩;rw[e] at hn;cases hn
def caE (p:Pl) (es:List Ent) (c:Cd):Int:=if p.shut=true then 7 else if ¬gi c=0 then gi c else if 0≤pos (bL es) c.nm then 5 else if es.length=64 then 14 else 0
theorem Et (h:bJ w base v ps):ja (fun k=>base≤k) w v ps:=by
 refine⟨h.at,fun g o n c e hn=>?_⟩;refine h.block g ?_;rw[e];rfl
theorem Ck (ok:Nat→Prop) (b:Nat) (es:List Ent) (p:Pl) (h:Hd) (v:Value) (ps:List Pt) (w:World) (hB:ee w b es p) (hG:dA ok w es) (hS:Srt es) (hok:¬ok b) (hp:da w v ps) (hm:bl ps.length):Calls prog 50 #[.pointer (some ⟨b,0,none⟩),cv h v] w fun e w'=>∃ u,e=.returned (.int .i64 (caE p es (h.with ps)))∧ee w' b (if caE p es (h.with ps)=0 then ins es ⟨h,u,ps⟩ else es) p∧dA (fun k=>ok k∨w.heap.size≤k) w' (if caE p es (h.with ps)=0 then ins es ⟨h,u,ps⟩ else es)∧w.grownBy w' (some b):=by
 obtain⟨a,c,rfl⟩:=hp.form;obtain⟨W1,hW1⟩:=Qe (w.alloc (.cells (ccs h (.slice a ps.length c)) 111));have HG1:QH (w.grownBy W1 none):=by rw[hW1];exact QG
 have HC1:QH (CAt W1 w.heap.size h (.slice a ps.length c)):=by rw[hW1];exact aj w _ _
 have HB1:QH (ee W1 b es p):=hB.keep HG1.o;have HGd:QH (dA ok W1 es):=hG.keep HG1.o;have HP1:QH (da W1 (.slice a ps.length c) ps):=hp.keep HG1.o;have hbs:b<w.heap.size:=by obtain⟨j,J⟩:=hB;exact aY J.lies
 have HR:=js b es.length p W1 HB1.o.flags;have HK:=xi h (.slice a ps.length c) ps W1 HP1.o hm;obtain⟨c0,c1,c2,c3,c4,c5,c6,c7,c8⟩:=HC1.o.cells;have KEEP:QH (∀ W2,W1.grownBy W2 none→ee W2 b es p∧dA (fun k=>ok k∨w.heap.size≤k) W2 es∧w.grownBy W2 (some b)):=fun W2 g=>⟨HB1.o.keep g,(HGd.o.keep g).mono (fun _ h=>Or.inl h),bi (aa HG1.o g) (aw _ _)⟩
 unfold ccs at hW1;unfold cv at HK ⊢;clear hB hG hp;cases hs:p.shut with
 | true =>
  have e1:caE p es (h.with ps)=7:=if_pos hs;rw[e1];simp only[show ¬((7:Int)=0) by decide,if_false];rw[hs] at HR;clear e1;go_enter func50,ntmps50;go_upto_region 1 with fail;rw[←hW1];clear hW1;go_wp2_with (first | (go_at_call 110;refine HR.mono ?_;rintro e w1 ⟨rfl,h1⟩;obtain rfl:W1=w1:=h1.symm) | fail)
  go_ret;obtain⟨k1,k2,k3⟩:=KEEP.o _ (aw _ _);exact⟨.nilFunc,rfl,k1,k2,k3⟩
 | false =>
  rw[hs] at HR;by_cases hc:gi (h.with ps)=0
  case neg =>
   have e1:caE p es (h.with ps)=gi (h.with ps):=(by unfold caE;rw[if_neg (by simp[hs]),if_pos hc]);rw[e1];obtain⟨q,hq⟩:=Qe (gi (h.with ps));rw[←hq] at HK hc ⊢;simp only[hc,if_false];have hc':(q != 0)=true:=(by simpa using hc);clear e1 hq hc;go_enter func50,ntmps50;go_upto_region 1 with fail;rw[←hW1];clear hW1;go_wp2_with (first | (go_at_call 110;refine HR.mono ?_;rintro e w1 ⟨rfl,h1⟩;obtain rfl:W1=w1:=h1.symm) | (go_at_call 111;refine HK.mono ?_;rintro e w2 ⟨rfl,g2⟩) | fail)
   go_ret;obtain⟨k1,k2,k3⟩:=KEEP.o _ g2;exact⟨.nilFunc,rfl,k1,k2,k3⟩
  case pos =>
   obtain⟨f1,f2,f3,f4,f5,f6⟩:=jW hc;have f1':h.nm.size≤281474976710656:=Ql f1 (by omega);have f3':ps.length≤4:=f3;have HN:QH (Nmd ps):=fun x hx=>Ql (f4 x hx) (by omega);have HSl:=HGd.o.slc;rw[hc] at HK;by_cases hq:0≤pos (bL es) h.nm
   ·have e1:caE p es (h.with ps)=5:=(by unfold caE;rw[if_neg (by simp[hs]),if_neg (by simp[hc])];exact if_pos hq);rw[e1];simp only[show ¬((5:Int)=0) by decide,if_false];have hd:decide (0≤pos (bL es) h.nm)=true:=Qy hq;clear e1 hq f1 f2 f3 f4 f5 f6 hc;go_enter func50,ntmps50;go_upto_region 1 with fail;rw[←hW1];clear hW1;go_wp2_with (first | (go_at_call 110;refine HR.mono ?_;rintro e w1 ⟨rfl,h1⟩;obtain rfl:W1=w1:=h1.symm) | (go_at_call 111;refine HK.mono ?_;rintro e w2 ⟨rfl,g2⟩;have d0:=(HC1.o.keep g2).cells.1) | (go_at_call 112;refine(rV b es p h.nm _ (HB1.o.keep g2) HSl).mono ?_;rintro e w3 ⟨rfl,g3⟩;rw[hd]) | fail)
    go_ret;obtain⟨k1,k2,k3⟩:=KEEP.o _ (aa g2 g3);exact⟨.nilFunc,rfl,k1,k2,k3⟩
   ·have hd:decide (0≤pos (bL es) h.nm)=false:=Qx hq;have HQ:QH (¬0≤pos (bL es) h.nm):=hq;by_cases hl:es.length=64
    ·have e1:caE p es (h.with ps)=14:=(by unfold caE;rw[if_neg (by simp[hs]),if_neg (by simp[hc]),if_neg (show ¬0≤pos (bL es) (h.with ps).nm from hq),if_pos hl]);rw[e1];simp only[show ¬((14:Int)=0) by decide,if_false];clear e1 hq f1 f2 f3 f4 f5 f6 hc;have hl':((es.length:Int) == 64)=true:=(by simp;omega);have HL:QH (es.length=64):=hl;clear hl;go_enter func50,ntmps50;go_upto_region 1 with fail;rw[←hW1];clear hW1;go_wp2_with (first | (go_at_call 110;refine HR.mono ?_;rintro e w1 ⟨rfl,h1⟩;obtain rfl:W1=w1:=h1.symm) | (go_at_call 111;refine HK.mono ?_;rintro e w2 ⟨rfl,g2⟩;have d0:=(HC1.o.keep g2).cells.1) | (go_at_call 112;refine(rV b es p h.nm _ (HB1.o.keep g2) HSl).mono ?_;rintro e w3 ⟨rfl,g3⟩;rw[hd];have n3:=(HB1.o.keep (aa g2 g3)).flags.count) | fail)
     go_ret;obtain⟨k1,k2,k3⟩:=KEEP.o _ (aa g2 g3);exact⟨.nilFunc,rfl,k1,k2,k3⟩
    ·have hl64:es.length<64:=(by have:=HB1.o.len;omega);have e1:caE p es (h.with ps)=0:=(by unfold caE;rw[if_neg (by simp[hs]),if_neg (by simp[hc]),if_neg (show ¬0≤pos (bL es) (h.with ps).nm from hq),if_neg hl]);rw[e1];simp only[if_true];clear e1 hq f1 f2 f3 f4 f5 f6 hc;have hl':((es.length:Int) == 64)=false:=(by simp;omega);have HL:QH (es.length<64):=hl64;have HRk:QH (jE es h (rk es h)):=vp es h hS;have HRl:QH (rk es h≤es.length):=FY es h;clear hl hl64;go_enter func50,ntmps50;go_upto_region 1 with fail;rw[←hW1];clear hW1;go_wp2_with (first | (go_at_call 110;refine HR.mono ?_;rintro e w1 ⟨rfl,h1⟩;obtain rfl:W1=w1:=h1.symm) | (go_at_call 111;refine HK.mono ?_;rintro e w2 ⟨rfl,g2⟩;have d0:=(HC1.o.keep g2).cells.1) | (go_at_call 112;refine(rV b es p h.nm _ (HB1.o.keep g2) HSl).mono ?_;rintro e w3 ⟨rfl,g3⟩;rw[hd];have HG3:QH (W1.grownBy w3 none):=aa g2 g3;have n3:=(HB1.o.keep HG3.o).flags.count;clear d0;obtain⟨x0,x1,x2,x3,x4,x5,x6,x7,x8⟩:=(HC1.o.keep HG3.o).cells) | (go_at_call 114;refine(EA h (.slice a ps.length c) ps _ (HP1.o.keep HG3.o) f3' f1' HN.o).mono ?_;rintro e w4 ⟨u,rfl,o4,g4⟩;have HO4:QH (bJ w4 w3.heap.size u ps):=o4;have HG4:QH (W1.grownBy w4 none):=aa HG3.o g4;clear o4 x0 x1 x2 x3 x4 x5 x6 x7 x8 n3) | (go_at_call 113;refine(xG b es p h u ps (rk es h) _ (HB1.o.keep HG4.o) HSl (by obtain⟨y,z,e5⟩:=HO4.o.at.form;exact⟨_,_,_,e5⟩) HL.o HRk.o HRl.o).mono ?_;rintro e w5 ⟨⟨r,rfl⟩,J5,g5⟩) | fail)
     go_ret;have hw3:w.heap.size≤w3.heap.size:=Ql HG1.o.size HG3.o.size;have O5:ja (fun k=>ok k∨w.heap.size≤k) w5 u ps:=((Et HO4.o).mono (ok':=fun k=>w.heap.size≤k) (fun k hk=>Ql hw3 hk)).keepR g5 (fun k hk e=>by cases e;omega) |>.mono (fun _ h=>Or.inr h)
     have G5:dA (fun k=>ok k∨w.heap.size≤k) w5 es:=((HGd.o.keep HG4.o).keepR g5 (fun k hk e=>by cases e;exact hok hk)).mono (fun _ h=>Or.inl h);refine⟨u,rfl,J5,fun e he=>?_,bi (aa HG1.o HG4.o) g5⟩
     rcases (mN es ⟨h,u,ps⟩ e).1 he with rfl | he
     ·exact O5
     ·exact G5 e he
