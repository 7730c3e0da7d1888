import Derived.Test.YtjmepebbcnhalaaGreatWCheck
import Derived.Laws.StructEq
import Derived.OwnWalk
import Derived.Maps.AppendAt
import Derived.Laws.AppendOwnNone
import Derived.Test.YtjmepebbcnhalaaGreatW0
namespace Go.Proofs.YtjmepebbcnhalaaGreat
set_option maxRecDepth 100000
set_option maxHeartbeats 2000000
open Go.RowKit
def bN (p q:Pt):Bool:=decide (p.wn=q.wn∧p.vb=q.vb∧p.wm=q.wm∧p.ct=q.ct∧p.su=q.su∧p.tr=q.tr∧p.mr=q.mr∧p.nm=q.nm)
theorem wb {p q:Pt} (h:p=q):bN p q=true:=by subst h;simp[bN]
theorem lQ {p q:Pt} (h:¬p=q):bN p q=false:=by
 unfold bN
 refine decide_eq_false fun e=>h ?_
 cases p
 cases q
 simp only at e
 simp[e]
theorem fD {s t:ByteArray} (h:s.toList=t.toList):s=t:=by
 rw[Lib.toList_data,Lib.toList_data] at h
 rcases s with ⟨⟨a⟩⟩
 rcases t with ⟨⟨b⟩⟩
 simp at h
 rw[h]
theorem yR (op:BinOp) (x y:Operand) (xs ys:Array Value) (w:World):(eqGuard op 62 x y (.agg xs) (.agg ys)).run Tryz.prog w=.ok () w:=run_eqGuard_agg w op 62 x y xs ys (by kernel_rfl)
theorem qq (a0 a1 a2 a3 a4 a5 a6:Int) (s:ByteArray) (b0 b1 b2 b3 b4 b5 b6:Int) (t:ByteArray) (w:World):(Op.equalIn 10000 62 (.agg #[.int .u8 a0,.int .u8 a1,.int .u8 a2,.int .i64 a3,.int .u8 a4,.int .u8 a5,.int .u8 a6,.string s]) (.agg #[.int .u8 b0,.int .u8 b1,.int .u8 b2,.int .i64 b3,.int .u8 b4,.int .u8 b5,.int .u8 b6,.string t])).run Tryz.prog w=.ok (bN (⟨a0,a1,a2,a3,a4,a5,a6,s⟩:Pt) ⟨b0,b1,b2,b3,b4,b5,b6,t⟩) w:=by
 unfold bN
 have hS:Tryz.prog.underlying 62=some (.struct (Tryz.prog.fieldsOf 62)):=by kernel_rfl
 have hp:Tryz.prog.stoodInHeld 62=false:=by kernel_rfl
 have u3:=Tryz.underlying3
 have i3:=Tryz.isAgg3
 have z3:=Tryz.sizeOf3
 have u9:=Tryz.underlying9
 have i9:=Tryz.isAgg9
 have z9:=Tryz.sizeOf9
 have u23:=Tryz.underlying55
 have i23:=Tryz.isAgg55
 have z23:=Tryz.sizeOf55
 have u24:=Tryz.underlying56
 have i24:=Tryz.isAgg56
 have z24:=Tryz.sizeOf56
 have u25:=Tryz.underlying57
 have i25:=Tryz.isAgg57
 have z25:=Tryz.sizeOf57
 have u26:=Tryz.underlying58
 have i26:=Tryz.isAgg58
 have z26:=Tryz.sizeOf58
 have u27:=Tryz.underlying59
 have i27:=Tryz.isAgg59
 have z27:=Tryz.sizeOf59
 have u28:=Tryz.underlying60
 have i28:=Tryz.isAgg60
 have z28:=Tryz.sizeOf60
 rw[show (10000:Nat)=9999+1 from rfl,run_equalIn_agg w 9999 62 _ _ hS hp]
 simp only[Program.fieldsOf,Tryz.underlying62]
 go_simp
 by_cases h0:a0=b0
 case neg=>simp[h0]
 simp only[h0]
 by_cases h1:a1=b1
 case neg=>simp[h1]
 simp only[h1]
 by_cases h2:a2=b2
 case neg=>simp[h2]
 simp only[h2]
 by_cases h3:a3=b3
 case neg=>simp[h3]
 simp only[h3]
 by_cases h4:a4=b4
 case neg=>simp[h4]
 simp only[h4]
 by_cases h5:a5=b5
 case neg=>simp[h5]
 simp only[h5]
 by_cases h6:a6=b6
 case neg=>simp[h6]
 simp only[h6]
 by_cases h7:s=t
 case neg=>simp[h7];exact fun e=>h7 (fD e)
 simp[h7]
theorem yD (a0 a1 a2 a3 a4 a5 a6:Int) (s:ByteArray) (b0 b1 b2 b3 b4 b5 b6:Int) (t:ByteArray) (w:World):(binOp .eql 62 (.agg #[.int .u8 a0,.int .u8 a1,.int .u8 a2,.int .i64 a3,.int .u8 a4,.int .u8 a5,.int .u8 a6,.string s]) (.agg #[.int .u8 b0,.int .u8 b1,.int .u8 b2,.int .i64 b3,.int .u8 b4,.int .u8 b5,.int .u8 b6,.string t])).run Tryz.prog w=.ok (.bool (bN (⟨a0,a1,a2,a3,a4,a5,a6,s⟩:Pt) ⟨b0,b1,b2,b3,b4,b5,b6,t⟩)) w:=by
 rw[run_eql_struct,qq];rfl
theorem yJ (p q:Pt) (w:World):Calls Tryz.prog 292 #[pv p,pv q] w fun e w'=>e=.returned (.bool (bN p q))∧w.grownBy w' none:=by
 unfold pv
 have he:=yD
 have hg:=yR
 go_enter Tryz.func292,Tryz.ntmps292
 go_wp2
 go_ret
 exact⟨rfl,am (World.grownBy_alloc _ _ _) _⟩
def pvs (p:Pt):List Value:=[.int .u8 p.wn,.int .u8 p.vb,.int .u8 p.wm,.int .i64 p.ct,.int .u8 p.su,.int .u8 p.tr,.int .u8 p.mr,.string p.nm]
def cZ:List Pt→List Value
 | []=>[]
 | p :: r=>pvs p++cZ r
theorem f8:∀ ps:List Pt,(cZ ps).length=ps.length*8
 | []=>rfl
 | p :: r=>by simp only[cZ,List.length_append,f8 r,List.length_cons];simp only[pvs,List.length_cons,List.length_nil];omega
theorem mE:∀ a b:List Pt,cZ (a++b)=cZ a++cZ b
 | [],b=>rfl
 | p :: r,b=>by simp only[List.cons_append,cZ,mE r b,List.append_assoc]
theorem gR:∀ (ps:List Pt) (j:Nat) (p:Pt),ps[j]?=some p→∀ k,k<8→(cZ ps)[j*8+k]?=(pvs p)[k]?
 | [],j,p,h,k,_=>by simp at h
 | q :: r,0,p,h,k,hk=>by
  obtain rfl:q=p:=by simpa using h
  simp only[cZ,Nat.zero_mul,Nat.zero_add]
  exact List.getElem?_append_left (by simpa [pvs] using hk)
 | q :: r,j+1,p,h,k,hk=>by
  have ih:=gR r j p (by simpa using h) k hk
  simp only[cZ]
  rw[List.getElem?_append_right (by simp[pvs];omega),←ih]
  congr 1
  simp[pvs]
  omega
theorem iq:∀ (ps:List Pt),∀ u∈cZ ps,u.oneCell'=true
 | [],u,h=>by simp[cZ] at h
 | p :: r,u,h=>by
  rcases List.mem_append.1 h with h | h
  ·simp only[pvs,List.mem_cons,List.not_mem_nil,or_false] at h
   rcases h with rfl | rfl | rfl | rfl | rfl | rfl | rfl | rfl <;> rfl
  ·exact iq r u h

def bY (w:World) (v:Value) (ps:List Pt):Prop:=(v=.slice none 0 0∧ps=[])∨∃ ad cap,v=.slice (some ad) ps.length cap∧ps.length≤cap∧∀ j u,(cZ ps)[j]?=some u→w.cell? (ad.add j)=some u
theorem fg {w:World} {x:Addr} {v:Value} (h:w.cell? x=some v):x=⟨x.block,x.off,none⟩:=by
 cases x with
 | mk b o s =>
  cases s with
  | none=>rfl
  | some s =>
   exfalso
   unfold World.cell? at h
   split at h <;> simp_all
theorem cG (b o j:Nat):(⟨b,o,none⟩:Addr).add j=⟨b,o+j,none⟩:=by unfold Addr.add;split <;> simp_all
theorem bY.keep {w w':World} {v:Value} {ps:List Pt} (h:bY w v ps) (g:w.grownBy w' none):bY w' v ps:=by
 rcases h with h | ⟨ad,cap,e,hc,h⟩
 ·exact Or.inl h
 ·exact Or.inr ⟨ad,cap,e,hc,fun j u hu=>g.cell (h j u hu) (by simp)⟩
theorem bY.form {w:World} {v:Value} {ps:List Pt} (h:bY w v ps):∃ a cap,v=.slice a ps.length cap:=by
 rcases h with ⟨rfl,rfl⟩ | ⟨ad,cap,e,_,_⟩
 ·exact⟨none,0,rfl⟩
 ·exact⟨some ad,cap,e⟩
theorem bY.nil {w:World} {a:Option Addr} {n:Nat} (h:bY w (.slice a 0 n) []) (w':World):bY w' (.slice a 0 n) []:=by
 rcases h with h | ⟨ad,cap,e,hc,_⟩
 ·exact Or.inl h
 ·exact Or.inr ⟨ad,cap,e,hc,fun j u hu=>by simp[cZ] at hu⟩
structure P8 (w:World) (g o:Nat) (p:Pt):Prop where
 c0:w.cell? ⟨g,o,none⟩=some (.int .u8 p.wn)
 c1:w.cell? ⟨g,o+1,none⟩=some (.int .u8 p.vb)
 c2:w.cell? ⟨g,o+2,none⟩=some (.int .u8 p.wm)
 c3:w.cell? ⟨g,o+3,none⟩=some (.int .i64 p.ct)
 c4:w.cell? ⟨g,o+4,none⟩=some (.int .u8 p.su)
 c5:w.cell? ⟨g,o+5,none⟩=some (.int .u8 p.tr)
 c6:w.cell? ⟨g,o+6,none⟩=some (.int .u8 p.mr)
 c7:w.cell? ⟨g,o+7,none⟩=some (.string p.nm)
theorem P8.keep {w w':World} {g o:Nat} {p:Pt} (h:P8 w g o p) (k:w.grownBy w' none):P8 w' g o p :=
 ⟨k.cell h.c0 (by simp),k.cell h.c1 (by simp),k.cell h.c2 (by simp),k.cell h.c3 (by simp),k.cell h.c4 (by simp),k.cell h.c5 (by simp),k.cell h.c6 (by simp),k.cell h.c7 (by simp)⟩
theorem bY.part {w:World} {v:Value} {ps:List Pt} (h:bY w v ps) (h0:0<ps.length):∃ g off cap,v=.slice (some ⟨g,off,none⟩) ps.length cap∧∀ j p,ps[j]?=some p→P8 w g (off+j*8) p:=by
 rcases h with ⟨_,rfl⟩ | ⟨ad,cap,e,_,h⟩
 ·simp at h0
 ·obtain⟨q,hq⟩:∃ q,ps[0]?=some q:=⟨ps[0],List.getElem?_eq_getElem h0⟩
  have k0:=h 0 _ (by have:=gR ps 0 q hq 0 (by omega);simpa [pvs] using this)
  have ea:ad.add 0=ad:=by simp[Addr.add]
  rw[ea] at k0
  have ep:=fg k0
  refine⟨ad.block,ad.off,cap,by rw[←ep];exact e,fun j p hp=>?_⟩
  have at_:∀ k u,k<8→(pvs p)[k]?=some u→w.cell? ⟨ad.block,ad.off+(j*8+k),none⟩=some u:=fun k u hk hu=>by
   have:=h (j*8+k) u (by rw[gR ps j p hp k hk];exact hu)
   rw[ep,cG] at this
   exact this
  exact⟨at_ 0 _ (by omega) rfl,at_ 1 _ (by omega) rfl,at_ 2 _ (by omega) rfl,at_ 3 _ (by omega) rfl,at_ 4 _ (by omega) rfl,at_ 5 _ (by omega) rfl,at_ 6 _ (by omega) rfl,at_ 7 _ (by omega) rfl⟩

def bA (w:World) (base:Nat) (v:Value) (ps:List Pt):Prop:=w.ownsRow base 62 8 v ps.length (cZ ps)
theorem bA.nil (w:World) (base:Nat):bA w base (.slice none 0 0) []:=⟨rfl,Or.inl ⟨rfl,rfl⟩⟩
theorem bA.keep {w w':World} {base:Nat} {v:Value} {l:List Pt} {r:Option Nat} (h:bA w base v l) (hg:w.grownBy w' r) (hr:∀ x,r=some x→x<base):bA w' base v l:=by
 obtain⟨h1,h2⟩:=h
 refine⟨h1,?_⟩
 rcases h2 with h2 | ⟨g,cap,cur,e,hb,hh,h3⟩
 ·exact Or.inl h2
 ·exact Or.inr ⟨g,cap,cur,e,hb,ai hg hh (fun e=>by have:=hr g e.symm;omega),h3⟩
theorem bA.at {w:World} {base:Nat} {v:Value} {ps:List Pt} (h:bA w base v ps):bY w v ps:=by
 obtain⟨h1,⟨rfl,h2⟩ | ⟨g,cap,cur,e,hb,hh,hn,hc,hz,ht⟩⟩:=h
 ·exact Or.inl ⟨rfl,List.eq_nil_of_length_eq_zero h2⟩
 ·refine Or.inr ⟨⟨g,0,none⟩,cap,e,hn,fun j u hu=>?_⟩
  rw[cG,Nat.zero_add]
  have hj:j<(cZ ps).length:=(List.getElem?_eq_some_iff.1 hu).1
  rw[←ht,List.getElem?_take_of_lt (by rw[f8] at hj;exact hj)] at hu
  simp only[World.cell?,hh]
  simpa using hu
theorem bA.block {w:World} {base:Nat} {v:Value} {l:List Pt} (h:bA w base v l):∀ k,v.ownBlock=some k→base≤k:=by
 obtain⟨_,⟨rfl,_⟩ | ⟨g,cap,cur,rfl,hb,_⟩⟩:=h
 ·intro k e;cases e
 ·intro k e
  cases e
  exact hb
theorem bA.big {w:World} {base:Nat} {v:Value} {l:List Pt} (h:bA w base v l) {b':Nat} (hb:b'≤base):bA w b' v l:=by
 obtain⟨h1,h2⟩:=h
 refine⟨h1,?_⟩
 rcases h2 with h2 | ⟨g,cap,cur,e,hg,h3⟩
 ·exact Or.inl h2
 ·exact Or.inr ⟨g,cap,cur,e,Nat.le_trans hb hg,h3⟩
theorem Tryz.info62:(Tryz.prog.info? 62).map (fun i=>(i.zero,i.size,i.bytes))=some (some (.agg #[.int .u8 0,.int .u8 0,.int .u8 0,.int .i64 0,.int .u8 0,.int .u8 0,.int .u8 0,.string ByteArray.empty]),8,40):=by kernel_rfl
theorem lq {P:Program} {t:TypeId} {z:Option Value} {s b:Nat} (h:(P.info? t).map (fun i=>(i.zero,i.size,i.bytes))=some (z,s,b)):∃ i,P.info? t=some i∧i.zero=z∧i.size=s∧i.bytes=b:=by
 cases hi:P.info? t with
 | none=>rw[hi] at h;cases h
 | some i =>
  rw[hi] at h
  simp only[Option.map_some,Option.some.injEq,Prod.mk.injEq] at h
  exact⟨i,rfl,h⟩
def aZ (n:Nat):Prop:=n≤140737488355328
theorem aZ.wrap {n k:Nat} (h:aZ n) (hk:k<n):wrap64 ((k:Int)+1)=(k:Int)+1:=by unfold aZ at h;unfold wrap64;omega
theorem au {n k:Nat} (h:k<n):n - (intOf (.int .i64 ((k:Int)+1))).toNat<n - (intOf (.int .i64 (k:Int))).toNat:=by simp[intOf];omega
def jE (n:Nat):Prop:=(n+2)*40≤140737488355328
theorem jE.small {n:Nat} (h:jE n):aZ n:=by unfold jE at h;unfold aZ;omega
theorem jE.copy {n:Nat} (h:jE n):n*40≤140737488355328:=by unfold jE at h;omega
structure Hd where
 nm:ByteArray
 su:Int
 kd:Int
 co:Int
 po:Int
 he:Int
 tr:Int
 tk:Bool
def cv (h:Hd) (v:Value):Value:=.agg #[.string h.nm,.int .u8 h.su,.int .u8 h.kd,.int .i64 h.co,.int .i64 h.po,.int .i64 h.he,.int .u16 h.tr,.bool h.tk,v]
def ccs (h:Hd) (v:Value):Array Value:=#[.string h.nm,.int .u8 h.su,.int .u8 h.kd,.int .i64 h.co,.int .i64 h.po,.int .i64 h.he,.int .u16 h.tr,.bool h.tk,v]
def CAt (w:World) (b:Nat) (h:Hd) (v:Value):Prop:=w.heap[b]?=some (.cells (ccs h v) 111 (0,0))
theorem CAt.keep {w w':World} {b:Nat} {h:Hd} {v:Value} (k:CAt w b h v) (g:w.grownBy w' none):CAt w' b h v:=ai g k (by simp)
theorem CAt.cells {w:World} {b:Nat} {h:Hd} {v:Value} (k:CAt w b h v):w.cell? ⟨b,0,none⟩=some (.string h.nm)∧w.cell? ⟨b,1,none⟩=some (.int .u8 h.su)∧w.cell? ⟨b,2,none⟩=some (.int .u8 h.kd)∧w.cell? ⟨b,3,none⟩=some (.int .i64 h.co)∧w.cell? ⟨b,4,none⟩=some (.int .i64 h.po)∧w.cell? ⟨b,5,none⟩=some (.int .i64 h.he)∧w.cell? ⟨b,6,none⟩=some (.int .u16 h.tr)∧w.cell? ⟨b,7,none⟩=some (.bool h.tk)∧w.cell? ⟨b,8,none⟩=some v :=
 ⟨ae k 0,ae k 1,ae k 2,ae k 3,ae k 4,ae k 5,ae k 6,ae k 7,ae k 8⟩
theorem CAt.free {w:World} {b:Nat} {h:Hd} {v:Value} (k:CAt w b h v) (i:Nat):w.frozen? ⟨b,i,none⟩=false:=aA k i
def Hd.none:Hd:=⟨⟨#[]⟩,0,0,0,0,0,0,false⟩
theorem gu (b:World) (s:Nat) (x0 x1 x2 x3 x4 x5 x6 x7 x8:Value):b.grownBy (((((((((b.setCell ⟨s,0,none⟩ x0).setCell ⟨s,1,none⟩ x1).setCell ⟨s,2,none⟩ x2).setCell ⟨s,3,none⟩ x3).setCell ⟨s,4,none⟩ x4).setCell ⟨s,5,none⟩ x5).setCell ⟨s,6,none⟩ x6).setCell ⟨s,7,none⟩ x7).setCell ⟨s,8,none⟩ x8) (some s) :=
 (((((((((aw _ s 0 x0).trans (aw _ s 1 x1)).trans (aw _ s 2 x2)).trans (aw _ s 3 x3)).trans (aw _ s 4 x4)).trans (aw _ s 5 x5)).trans (aw _ s 6 x6)).trans (aw _ s 7 x7)).trans (aw _ s 8 x8))
theorem Bp {s t:ByteArray} (h:¬s=t):(s.toList == t.toList)=false:=by
 cases hb:(s.toList == t.toList) with
 | false=>rfl
 | true=>exact absurd (fD (eq_of_beq hb)) h
theorem cE {a b:Int} (h:¬a=b):(a == b)=false:=by simpa using h
set_option maxHeartbeats 4000000
def sB (k:Int):Bool:=decide (1≤k) && decide (k≤6)
def wI (n m:Int):Bool:=decide (0≤n) && decide (n≤m)
def oG (k:Int):ByteArray:=if k=1 then ⟨#[117,110,105,116]⟩ else if k=2 then ⟨#[115,112,101,108,108]⟩ else if k=3 then ⟨#[114,101,108,105,99]⟩ else ⟨#[]⟩
theorem vU (k:Int) (w:World):Calls Tryz.prog 171 #[.int .u8 k] w fun e w'=>e=.returned (.bool (sB k))∧w'=w:=by
 by_cases h:1≤k
 ·have h':(1:Int)≤k:=h
  have e:sB k=decide (k≤6):=by simp[sB,h]
  rw[e]
  clear e
  go_enter Tryz.func171,Tryz.ntmps171
  go_wp2
  go_ret
  exact⟨rfl,rfl⟩
 ·have e:sB k=false:=by simp[sB,h]
  rw[e]
  clear e
  go_enter Tryz.func171,Tryz.ntmps171
  go_wp2
  go_ret
  exact⟨rfl,rfl⟩
theorem iW (n m:Int) (w:World):Calls Tryz.prog 173 #[.int .i64 n,.int .i64 m] w fun e w'=>e=.returned (.bool (wI n m))∧w'=w:=by
 by_cases h:0≤n
 ·have e:wI n m=decide (n≤m):=by simp[wI,h]
  rw[e]
  clear e
  go_enter Tryz.func173,Tryz.ntmps173
  go_wp2
  go_ret
  exact⟨rfl,rfl⟩
 ·have e:wI n m=false:=by simp[wI,h]
  rw[e]
  clear e
  go_enter Tryz.func173,Tryz.ntmps173
  go_wp2
  go_ret
  exact⟨rfl,rfl⟩
theorem xm (k:Int) (w:World):Calls Tryz.prog 172 #[.int .u8 k] w fun e w'=>e=.returned (.string (oG k))∧w'=w:=by
 by_cases h1:k=1
 ·subst h1
  go_enter Tryz.func172,Tryz.ntmps172
  go_wp2
  go_ret
  exact⟨rfl,rfl⟩
 by_cases h2:k=2
 ·subst h2
  go_enter Tryz.func172,Tryz.ntmps172
  go_wp2
  go_ret
  exact⟨rfl,rfl⟩
 by_cases h3:k=3
 ·subst h3
  go_enter Tryz.func172,Tryz.ntmps172
  go_wp2
  go_ret
  exact⟨rfl,rfl⟩
 have e:oG k=⟨#[]⟩:=by simp[oG,h1,h2,h3]
 have k1:=cE h1
 have k2:=cE h2
 have k3:=cE h3
 rw[e]
 clear e h1 h2 h3
 go_enter Tryz.func172,Tryz.ntmps172
 go_wp2
 go_ret
 exact⟨rfl,rfl⟩
theorem fI (s:Int) (w:World):Calls Tryz.prog 175 #[.int .u16 s] w fun e w'=>e=.returned (.bool (bR s))∧w'=w:=by
 unfold bR
 go_enter Tryz.func175,Tryz.ntmps175
 go_wp2
 go_ret
 exact⟨rfl,rfl⟩
theorem rt (kd wn:Int) (w:World):Calls Tryz.prog 238 #[.int .u8 kd,.int .u8 wn] w fun e w'=>e=.returned (.bool (fx kd wn))∧w'=w:=by
 by_cases h2:kd=2
 ·subst h2
  have e:fx 2 wn=(wn == 1):=by simp[fx];by_cases h:wn=1 <;> simp[h]
  rw[e]
  clear e
  go_enter Tryz.func238,Tryz.ntmps238
  go_wp2
  go_ret
  exact⟨rfl,rfl⟩
 by_cases h3:kd=3
 ·subst h3
  have e:fx 3 wn=(wn != 4):=by simp[fx];by_cases h:wn=4 <;> simp[h]
  rw[e]
  clear e h2
  go_enter Tryz.func238,Tryz.ntmps238
  go_wp2
  go_ret
  exact⟨rfl,rfl⟩
 have e:fx kd wn=true:=by simp[fx,h2,h3]
 have k2:=cE h2
 have k3:=cE h3
 rw[e]
 clear e h2 h3
 go_enter Tryz.func238,Tryz.ntmps238
 go_wp2
 go_ret
 exact⟨rfl,rfl⟩
def Hd.with (h:Hd) (ps:List Pt):Cd:=⟨h.nm,h.su,h.kd,h.co,h.po,h.he,h.tr,h.tk,ps⟩
def Cd.hd (c:Cd):Hd:=⟨c.nm,c.su,c.kd,c.co,c.po,c.he,c.tr,c.tk⟩
def fOk (kd po he:Int):Bool:=if kd=1 then he != 0 else (po == 0) && (he == 0)
theorem yg (c:Cd):dN c=fOk c.kd c.po c.he:=by
 unfold dN fOk
 by_cases h:c.kd=1
 ·rw[if_pos h,if_pos h]
  by_cases k:c.he=0 <;> simp[k]
 ·rw[if_neg h,if_neg h]
  by_cases k:c.he=0 <;> by_cases j:c.po=0 <;> simp[k,j]
theorem xN (h:Hd) (v:Value) (w:World):Calls Tryz.prog 174 #[cv h v] w fun e w'=>e=.returned (.bool (fOk h.kd h.po h.he))∧w.grownBy w' none:=by
 obtain⟨nm,su,kd,co,po,he,tr,tk⟩:=h
 unfold cv
 simp only
 by_cases h1:kd=1
 ·subst h1
  simp only[fOk,if_true]
  go_enter Tryz.func174,Tryz.ntmps174
  go_wp2
  go_ret
  exact⟨rfl,World.grownBy_alloc _ _ none⟩
 ·have k1:=cE h1
  simp only[fOk,if_neg h1]
  clear h1
  by_cases h2:po=0
  ·subst h2
   simp only[beq_self_eq_true,Bool.true_and]
   go_enter Tryz.func174,Tryz.ntmps174
   go_wp2
   go_ret
   exact⟨rfl,World.grownBy_alloc _ _ none⟩
  ·have k2:=cE h2
   rw[k2,Bool.false_and]
   go_enter Tryz.func174,Tryz.ntmps174
   go_wp2
   go_ret
   exact⟨rfl,World.grownBy_alloc _ _ none⟩
theorem ip {kd:Int} {ps:List Pt} {k:Nat} {p:Pt} (h:ps[k]?=some p):dQ kd (ps.drop k)=if ¬chk p=0 then chk p else if fx kd p.wn=false then 8 else dQ kd (ps.drop (k+1)):=by
 obtain⟨hk,e⟩:=List.getElem?_eq_some_iff.1 h
 rw[List.drop_eq_getElem_cons hk,e]
 rfl
def da (kd:Int) (ps:List Pt) (k:Nat) (r:Int):Prop:=dQ kd (ps.drop k)=r
theorem iZ (h:Hd) (v:Value) (ps:List Pt) (w:World) (hp:bY w v ps) (hm:aZ ps.length):Calls Tryz.prog 176 #[cv h v] w fun e w'=>e=.returned (.int .i64 (dQ h.kd ps))∧w.grownBy w' none:=by
 obtain⟨nm,su,kd,co,po,he,tr,tk⟩:=h
 by_cases h0:ps.length=0
 ·obtain rfl:=List.eq_nil_of_length_eq_zero h0
  obtain⟨a,c,rfl⟩:=hp.form
  clear hp hm h0
  unfold cv
  simp only[List.length_nil,dQ]
  go_enter Tryz.func176,Tryz.ntmps176
  go_wp2_with fail
  go_loopw [9] (fun i wr=>i=.int .i64 0∧w.grownBy wr none) (fun i _=>0)
  case atStart=>exact⟨rfl,World.grownBy_alloc _ _ none⟩
  case round =>
   obtain⟨rfl,G⟩:=hrel
   go_wp2
   go_ret
   exact⟨rfl,G⟩
 ·obtain⟨g,o,c,rfl,PA⟩:=hp.part (by omega)
  have HA:Hid (∀ j p,ps[j]?=some p→P8 w g (o+j*8) p):=PA
  have HR:Hid (da kd ps 0 (dQ kd ps)):=rfl
  obtain⟨res,hres⟩:∃ res,dQ kd ps=res:=⟨_,rfl⟩
  have HR:Hid (da kd ps 0 res):=hres
  simp only
  rw[hres]
  clear hp PA h0 hres
  unfold cv
  simp only
  go_enter Tryz.func176,Tryz.ntmps176
  go_wp2_with fail
  go_loopw [9] (fun i wr=>∃ k:Nat,k≤ps.length∧i=.int .i64 k∧da kd ps k res∧CAt wr w.heap.size ⟨nm,su,kd,co,po,he,tr,tk⟩ (.slice (some ⟨g,o,none⟩) ps.length c)∧w.grownBy wr none) (fun i _=>ps.length - (intOf i).toNat)
  case atStart=>exact⟨0,Nat.zero_le _,rfl,HR.out,ak w (ccs ⟨nm,su,kd,co,po,he,tr,tk⟩ _) 111,World.grownBy_alloc _ _ none⟩
  case round =>
   obtain⟨k,hk,rfl,R,C,G⟩:=hrel
   have HG:Hid (w.grownBy wr none):=G
   have HC:Hid (CAt wr w.heap.size ⟨nm,su,kd,co,po,he,tr,tk⟩ (.slice (some ⟨g,o,none⟩) ps.length c)):=C
   have HQ:Hid (da kd ps k res):=R
   clear G C R HR
   rcases (show k=ps.length∨k<ps.length from by omega) with rfl | hlt
   ·have e:(0:Int)=res:=by
     have:=HQ.out
     unfold da at this
     rw[List.drop_length] at this
     exact this
    clear HQ HC hk hm
    subst e
    go_wp2
    go_ret
    exact⟨rfl,HG.out⟩
   ·have hlt':(k:Int)<(ps.length:Int):=by omega
    have hk0:(0:Int)≤(k:Int):=by omega
    have hw:=hm.wrap hlt
    obtain⟨p,hp⟩:∃ p,ps[k]?=some p:=⟨_,List.getElem?_eq_getElem hlt⟩
    obtain⟨c0,c1,c2,c3,c4,c5,c6,c7⟩:=(HA.out k p hp).keep HG.out
    have HP:Hid (dQ kd (ps.drop k)=if ¬chk p=0 then chk p else if fx kd p.wn=false then 8 else dQ kd (ps.drop (k+1))):=ip hp
    clear hp
    by_cases hz:chk p=0
    case neg =>
     have hz':(chk p == 0)=false:=cE hz
     have e:chk p=res:=by
      have:=HP.out
      rw[if_pos hz] at this
      rw[←this]
      exact HQ.out
     clear HP HQ hz
     subst e
     obtain⟨p0,p1,p2,p3,p4,p5,p6,p7⟩:=p
     simp only at c0 c1 c2 c3 c4 c5 c6 c7
     go_wp2_with (first | (go_at_call 237;refine(kw ⟨p0,p1,p2,p3,p4,p5,p6,p7⟩ _).mono ?_;rintro e w1 ⟨rfl,g1⟩) | fail)
     go_ret
     exact⟨rfl,aa HG.out (aa (World.grownBy_alloc _ _ none) g1)⟩
    cases hy:fx kd p.wn with
    | false =>
     have e:(8:Int)=res:=by
      have:=HP.out
      rw[if_neg (by simpa using hz),if_pos hy] at this
      rw[←this]
      exact HQ.out
     clear HP HQ
     subst e
     obtain⟨p0,p1,p2,p3,p4,p5,p6,p7⟩:=p
     simp only at c0 c1 c2 c3 c4 c5 c6 c7 hy
     go_wp2_with (first | (go_at_call 237;refine(kw ⟨p0,p1,p2,p3,p4,p5,p6,p7⟩ _).mono ?_;rintro e w1 ⟨rfl,g1⟩;rw[hz];have k2:=ae (ai g1 (HC.out.keep (World.grownBy_alloc _ _ none)) (by simp)) 2;have k0:=(PAt.new wr ⟨p0,p1,p2,p3,p4,p5,p6,p7⟩).keep g1;have k0:=ae k0 0;simp only[ccs,List.getElem?_toArray,List.getElem?_cons_zero,List.getElem?_cons_succ] at k2 k0) | (go_at_call 238;refine(rt kd p0 _).mono ?_;rintro e w2 ⟨rfl,rfl⟩;rw[hy]) | fail)
     go_ret
     exact⟨rfl,aa HG.out (aa (World.grownBy_alloc _ _ none) g1)⟩
    | true =>
     have HN:Hid (da kd ps (k+1) res):=by
      have:=HP.out
      rw[if_neg (by simpa using hz),if_neg (by rw[hy];simp)] at this
      unfold Hid da
      rw[←this]
      exact HQ.out
     clear HP HQ
     obtain⟨p0,p1,p2,p3,p4,p5,p6,p7⟩:=p
     simp only at c0 c1 c2 c3 c4 c5 c6 c7 hy
     go_wp2_with (first | (go_at_call 237;refine(kw ⟨p0,p1,p2,p3,p4,p5,p6,p7⟩ _).mono ?_;rintro e w1 ⟨rfl,g1⟩;rw[hz];have C1:Hid (CAt w1 w.heap.size ⟨nm,su,kd,co,po,he,tr,tk⟩ (.slice (some ⟨g,o,none⟩) ps.length c)):=(HC.out.keep (World.grownBy_alloc _ _ none)).keep g1;have k2:=ae C1.out 2;have k0:=(PAt.new wr ⟨p0,p1,p2,p3,p4,p5,p6,p7⟩).keep g1;have k0:=ae k0 0;simp only[ccs,List.getElem?_toArray,List.getElem?_cons_zero,List.getElem?_cons_succ] at k2 k0) | (go_at_call 238;refine(rt kd p0 _).mono ?_;rintro e w2 ⟨rfl,h9⟩;obtain rfl:w1=w2:=h9.symm;rw[hy]) | fail)
     go_roundw
     case rel=>exact⟨k+1,hlt,by go_num,HN.out,C1.out,aa HG.out (aa (World.grownBy_alloc _ _ none) g1)⟩
     case measure=>rw[hw];exact au hlt
end Go.Proofs.YtjmepebbcnhalaaGreat
