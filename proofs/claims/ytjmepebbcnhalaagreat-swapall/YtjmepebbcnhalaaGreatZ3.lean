import Derived.Test.YtjmepebbcnhalaaGreatZCheck
import Derived.Laws.StructEq
import Derived.Maps.AppendAt
import Derived.Laws.AppendOwnNone
import Derived.Deep.Cut
namespace Go.Proofs.YtjmepebbcnhalaaGreat
open Tryz
set_option maxRecDepth 100000
set_option maxHeartbeats 2000000
open Go.RowKit
variable {q:Pt} {w w':World} {v:Value} {ps:List Pt} {g o base b k:Nat} {P:Program} {a:Int}
def f9 (p q:Pt):Bool:=decide (p.wn=q.wn∧p.vb=q.vb∧p.wm=q.wm∧p.ct=q.ct∧p.su=q.su∧p.tr=q.tr∧p.mr=q.mr∧p.nm=q.nm)
theorem zl {p:Pt} (h:p=q):f9 p q=true:=by subst h;simp[f9]
theorem BG {p:Pt} (h:¬p=q):f9 p q=false:=by
 unfold f9;refine Qx fun e=>h ?_;cases p;cases q;simp only at e;simp[e]
theorem iG {s t:ByteArray} (h:s.toList=t.toList):s=t:=by
 rw[Lib.toList_data,Lib.toList_data] at h
 rcases s with ⟨⟨a⟩⟩
 rcases t with ⟨⟨b⟩⟩
 simp at h;rw[h]
theorem DH (op:BinOp) (x y:Operand) (xs ys:Array Value) (w:World):(eqGuard op 62 x y (.agg xs) (.agg ys)).run prog w=.ok () w:=run_eqGuard_agg w op 62 x y xs ys (by kernel_rfl)
theorem rO (a0 a1 a2 a3 a4 a5 a6:Int) (s:ByteArray) (b0 b1 b2 b3 b4 b5 b6:Int) (t:ByteArray) (w:World):(Op.equalIn 10000 62 (.agg #[.int .u8 a0,.int .u8 a1,.int .u8 a2,.int .i64 a3,.int .u8 a4,.int .u8 a5,.int .u8 a6,.string s]) (.agg #[.int .u8 b0,.int .u8 b1,.int .u8 b2,.int .i64 b3,.int .u8 b4,.int .u8 b5,.int .u8 b6,.string t])).run prog w=.ok (f9 (⟨a0,a1,a2,a3,a4,a5,a6,s⟩:Pt) ⟨b0,b1,b2,b3,b4,b5,b6,t⟩) w:=by
 unfold f9;have hS:prog.underlying 62=some (.struct (prog.fieldsOf 62)):=by kernel_rfl
 have hp:prog.stoodInHeld 62=false:=by kernel_rfl
 have u3:=underlying3;have i3:=isAgg3;have z3:=sizeOf3;have u9:=underlying9;have i9:=isAgg9;have z9:=sizeOf9;have u23:=underlying55;have i23:=isAgg55;have z23:=sizeOf55;have u24:=underlying56;have i24:=isAgg56;have z24:=sizeOf56;have u25:=underlying57;have i25:=isAgg57;have z25:=sizeOf57;have u26:=underlying58;have i26:=isAgg58;have z26:=sizeOf58;have u27:=underlying59;have i27:=isAgg59;have z27:=sizeOf59;have u28:=underlying60;have i28:=isAgg60;have z28:=sizeOf60;rw[show (10000:Nat)=9999+1 from rfl,run_equalIn_agg w 9999 62 _ _ hS hp];simp only[Program.fieldsOf,underlying62];go_simp;by_cases h0:a0=b0
 case neg=>simp[h0]
 simp only[h0];by_cases h1:a1=b1
 case neg=>simp[h1]
 simp only[h1];by_cases h2:a2=b2
 case neg=>simp[h2]
 simp only[h2];by_cases h3:a3=b3
 case neg=>simp[h3]
 simp only[h3];by_cases h4:a4=b4
 case neg=>simp[h4]
 simp only[h4];by_cases h5:a5=b5
 case neg=>simp[h5]
 simp only[h5];by_cases h6:a6=b6
 case neg=>simp[h6]
 simp only[h6];by_cases h7:s=t
 case neg=>simp[h7];exact fun e=>h7 (iG e)
 simp[h7]
theorem BM (a0 a1 a2 a3 a4 a5 a6:Int) (s:ByteArray) (b0 b1 b2 b3 b4 b5 b6:Int) (t:ByteArray) (w:World):(binOp .eql 62 (.agg #[.int .u8 a0,.int .u8 a1,.int .u8 a2,.int .i64 a3,.int .u8 a4,.int .u8 a5,.int .u8 a6,.string s]) (.agg #[.int .u8 b0,.int .u8 b1,.int .u8 b2,.int .i64 b3,.int .u8 b4,.int .u8 b5,.int .u8 b6,.string t])).run prog w=.ok (.bool (f9 (⟨a0,a1,a2,a3,a4,a5,a6,s⟩:Pt) ⟨b0,b1,b2,b3,b4,b5,b6,t⟩)) w:=by
 rw[run_eql_struct,rO];rfl
theorem Ca (p q:Pt) (w:World):Calls prog 292 #[pv p,pv q] w fun e w'=>e=.returned (.bool (f9 p q))∧w.grownBy w' none:=by
 unfold pv;have he:=BM;have hg:=DH;go_enter func292,ntmps292;go_wp2;go_ret;exact⟨rfl,am (Qa0 _ _ _) _⟩
def pvs (p:Pt):List Value:=[.int .u8 p.wn,.int .u8 p.vb,.int .u8 p.wm,.int .i64 p.ct,.int .u8 p.su,.int .u8 p.tr,.int .u8 p.mr,.string p.nm]
def et:List Pt→List Value
 | []=>[]
 | p :: r=>pvs p++et r
theorem fK:∀ ps:List Pt,(et ps).length=ps.length*8
 | []=>rfl
 | p :: r=>by simp only[et,Qa,fK r,List.length_cons];simp only[pvs,List.length_cons,List.length_nil];omega
theorem iN:∀ (ps:List Pt) (j:Nat) (p:Pt),ps[j]?=some p→∀ k,k<8→(et ps)[j*8+k]?=(pvs p)[k]?
 | [],j,p,h,k,_=>by simp at h
 | q :: r,0,p,h,k,hk=>by
  obtain rfl:q=p:=by simpa using h
  simp only[et,Nat.zero_mul,Nat.zero_add];exact Qb1 (by simpa [pvs] using hk)
 | q :: r,j+1,p,h,k,hk=>by
  have ih:=iN r j p (by simpa using h) k hk;simp only[et];rw[Qap (by simp[pvs];omega),←ih]
  congr 1
  simp[pvs];omega
theorem iR:∀ (ps:List Pt),∀ u∈et ps,u.oneCell'=true
 | [],u,h=>by simp[et] at h
 | p :: r,u,h=>by
  rcases Qd2.1 h with h | h
  ·simp only[pvs,List.mem_cons,List.not_mem_nil,or_false] at h
   rcases h with rfl | rfl | rfl | rfl | rfl | rfl | rfl | rfl <;> rfl
  ·exact iR r u h

def da (w:World) (v:Value) (ps:List Pt):Prop:=(v=.slice none 0 0∧ps=[])∨∃ ad cap,v=.slice (some ad) ps.length cap∧ps.length≤cap∧∀ j u,(et ps)[j]?=some u→w.cell? (ad.add j)=some u
theorem gO {x:Addr} (h:w.cell? x=some v):x=⟨x.block,x.off,none⟩:=by
 cases x with
 | mk b o s =>
  cases s with
  | none=>rfl
  | some s =>
   exfalso;unfold World.cell? at h;split at h <;> simp_all
theorem dq (b o j:Nat):(⟨b,o,none⟩:Addr).add j=⟨b,o+j,none⟩:=by unfold Addr.add;split <;> simp_all
theorem da.keep (h:da w v ps) (g:w.grownBy w' none):da w' v ps:=by
 rcases h with h | ⟨ad,cap,e,hc,h⟩
 ·exact Or.inl h
 ·exact Or.inr ⟨ad,cap,e,hc,fun j u hu=>g.cell (h j u hu) (by simp)⟩
theorem da.form (h:da w v ps):∃ a cap,v=.slice a ps.length cap:=by
 rcases h with ⟨rfl,rfl⟩ | ⟨ad,cap,e,_,_⟩
 ·exact⟨none,0,rfl⟩
 ·exact⟨some ad,cap,e⟩
theorem da.nil {a:Option Addr} {n:Nat} (h:da w (.slice a 0 n) []) (w':World):da w' (.slice a 0 n) []:=by
 rcases h with h | ⟨ad,cap,e,hc,_⟩
 ·exact Or.inl h
 ·exact Or.inr ⟨ad,cap,e,hc,fun j u hu=>by simp[et] at hu⟩
structure P8 (w:World) (g o:Nat) (p:Pt):Prop where
 c0:w.cell? ⟨g,o,none⟩=some (.int .u8 p.wn)
 c1:w.cell? ⟨g,o+1,none⟩=some (.int .u8 p.vb)
 c2:w.cell? ⟨g,o+2,none⟩=some (.int .u8 p.wm)
 c3:w.cell? ⟨g,o+3,none⟩=some (.int .i64 p.ct)
 c4:w.cell? ⟨g,o+4,none⟩=some (.int .u8 p.su)
 c5:w.cell? ⟨g,o+5,none⟩=some (.int .u8 p.tr)
 c6:w.cell? ⟨g,o+6,none⟩=some (.int .u8 p.mr)
 c7:w.cell? ⟨g,o+7,none⟩=some (.string p.nm)
theorem P8.keep {p:Pt} (h:P8 w g o p) (k:w.grownBy w' none):P8 w' g o p :=
 ⟨k.cell h.c0 (by simp),k.cell h.c1 (by simp),k.cell h.c2 (by simp),k.cell h.c3 (by simp),k.cell h.c4 (by simp),k.cell h.c5 (by simp),k.cell h.c6 (by simp),k.cell h.c7 (by simp)⟩
theorem da.part (h:da w v ps) (h0:0<ps.length):∃ g off cap,v=.slice (some ⟨g,off,none⟩) ps.length cap∧∀ j p,ps[j]?=some p→P8 w g (off+j*8) p:=by
 rcases h with ⟨_,rfl⟩ | ⟨ad,cap,e,_,h⟩
 ·simp at h0
 ·obtain⟨q,hq⟩:∃ q,ps[0]?=some q:=⟨ps[0],Qg h0⟩
  have k0:=h 0 _ (by have:=iN ps 0 q hq 0 (by omega);simpa [pvs] using this);have ea:ad.add 0=ad:=by simp[Addr.add]
  rw[ea] at k0;have ep:=gO k0;refine⟨ad.block,ad.off,cap,by rw[←ep];exact e,fun j p hp=>?_⟩
  have at_:∀ k u,k<8→(pvs p)[k]?=some u→w.cell? ⟨ad.block,ad.off+(j*8+k),none⟩=some u:=fun k u hk hu=>by
   have:=h (j*8+k) u (by rw[iN ps j p hp k hk];exact hu);rw[ep,dq] at this;exact this
  exact⟨at_ 0 _ (by omega) rfl,at_ 1 _ (by omega) rfl,at_ 2 _ (by omega) rfl,at_ 3 _ (by omega) rfl,at_ 4 _ (by omega) rfl,at_ 5 _ (by omega) rfl,at_ 6 _ (by omega) rfl,at_ 7 _ (by omega) rfl⟩

def bJ (w:World) (base:Nat) (v:Value) (ps:List Pt):Prop:=w.ownsRow base 62 8 v ps.length (et ps)
theorem bJ.nil (w:World) (base:Nat):bJ w base (.slice none 0 0) []:=⟨rfl,Or.inl ⟨rfl,rfl⟩⟩
theorem bJ.keep {l:List Pt} {r:Option Nat} (h:bJ w base v l) (hg:w.grownBy w' r) (hr:∀ x,r=some x→x<base):bJ w' base v l:=by
 obtain⟨h1,h2⟩:=h;refine⟨h1,?_⟩
 rcases h2 with h2 | ⟨g,cap,cur,e,hb,hh,h3⟩
 ·exact Or.inl h2
 ·exact Or.inr ⟨g,cap,cur,e,hb,ag hg hh (fun e=>by have:=hr g e.symm;omega),h3⟩
theorem bJ.at (h:bJ w base v ps):da w v ps:=by
 obtain⟨h1,⟨rfl,h2⟩ | ⟨g,cap,cur,e,hb,hh,hn,hc,hz,ht⟩⟩:=h
 ·exact Or.inl ⟨rfl,Qay h2⟩
 ·refine Or.inr ⟨⟨g,0,none⟩,cap,e,hn,fun j u hu=>?_⟩;rw[dq,Qa8];have hj:j<(et ps).length:=(Qh hu).1;rw[←ht,Qcj (by rw[fK] at hj;exact hj)] at hu;simp only[World.cell?,hh];simpa using hu
theorem bJ.block {l:List Pt} (h:bJ w base v l):∀ k,v.ownBlock=some k→base≤k:=by
 obtain⟨_,⟨rfl,_⟩ | ⟨g,cap,cur,rfl,hb,_⟩⟩:=h
 ·intro k e;cases e
 ·intro k e;cases e;exact hb
theorem bJ.big {l:List Pt} (h:bJ w base v l) {b':Nat} (hb:b'≤base):bJ w b' v l:=by
 obtain⟨h1,h2⟩:=h;refine⟨h1,?_⟩
 rcases h2 with h2 | ⟨g,cap,cur,e,hg,h3⟩
 ·exact Or.inl h2
 ·exact Or.inr ⟨g,cap,cur,e,Ql hb hg,h3⟩
theorem info62:(prog.info? 62).map (fun i=>(i.zero,i.size,i.bytes))=some (some (.agg #[.int .u8 0,.int .u8 0,.int .u8 0,.int .i64 0,.int .u8 0,.int .u8 0,.int .u8 0,.string ByteArray.empty]),8,40):=by kernel_rfl
theorem mP {t:TypeId} {z:Option Value} {s:Nat} (h:(P.info? t).map (fun i=>(i.zero,i.size,i.bytes))=some (z,s,b)):∃ i,P.info? t=some i∧i.zero=z∧i.size=s∧i.bytes=b:=by
 cases hi:P.info? t with
 | none=>rw[hi] at h;cases h
 | some i =>
  rw[hi] at h;simp only[Option.map_some,Option.some.injEq,Prod.mk.injEq] at h;exact⟨i,rfl,h⟩
def bl (n:Nat):Prop:=n≤140737488355328
theorem bl.wrap {n k:Nat} (h:bl n) (hk:k<n):wrap64 ((k:Int)+1)=(k:Int)+1:=by unfold bl at h;unfold wrap64;omega
theorem aD {n k:Nat} (h:k<n):n - (intOf (.int .i64 ((k:Int)+1))).toNat<n - (intOf (.int .i64 (k:Int))).toNat:=by simp[intOf];omega
def kg (n:Nat):Prop:=(n+2)*40≤140737488355328
theorem kg.small {n:Nat} (h:kg n):bl n:=by unfold kg at h;unfold bl;omega
theorem kg.copy {n:Nat} (h:kg n):n*40≤140737488355328:=by unfold kg at h;omega
structure Hd where
 nm:ByteArray
 su:Int
 kd:Int
 co:Int
 po:Int
 he:Int
 tr:Int
 tk:Bool
def cv (h:Hd) (v:Value):Value:=.agg #[.string h.nm,.int .u8 h.su,.int .u8 h.kd,.int .i64 h.co,.int .i64 h.po,.int .i64 h.he,.int .u16 h.tr,.bool h.tk,v]
def ccs (h:Hd) (v:Value):Array Value:=#[.string h.nm,.int .u8 h.su,.int .u8 h.kd,.int .i64 h.co,.int .i64 h.po,.int .i64 h.he,.int .u16 h.tr,.bool h.tk,v]
def CAt (w:World) (b:Nat) (h:Hd) (v:Value):Prop:=w.heap[b]?=some (.cells (ccs h v) 111 (0,0))
theorem CAt.keep {h:Hd} (k:CAt w b h v) (g:w.grownBy w' none):CAt w' b h v:=ag g k (by simp)
theorem CAt.cells {h:Hd} (k:CAt w b h v):w.cell? ⟨b,0,none⟩=some (.string h.nm)∧w.cell? ⟨b,1,none⟩=some (.int .u8 h.su)∧w.cell? ⟨b,2,none⟩=some (.int .u8 h.kd)∧w.cell? ⟨b,3,none⟩=some (.int .i64 h.co)∧w.cell? ⟨b,4,none⟩=some (.int .i64 h.po)∧w.cell? ⟨b,5,none⟩=some (.int .i64 h.he)∧w.cell? ⟨b,6,none⟩=some (.int .u16 h.tr)∧w.cell? ⟨b,7,none⟩=some (.bool h.tk)∧w.cell? ⟨b,8,none⟩=some v :=
 ⟨ae k 0,ae k 1,ae k 2,ae k 3,ae k 4,ae k 5,ae k 6,ae k 7,ae k 8⟩
theorem CAt.free {h:Hd} (k:CAt w b h v) (i:Nat):w.frozen? ⟨b,i,none⟩=false:=aq k i
def Hd.none:Hd:=⟨⟨#[]⟩,0,0,0,0,0,0,false⟩
theorem ii (b:World) (s:Nat) (x0 x1 x2 x3 x4 x5 x6 x7 x8:Value):b.grownBy (((((((((b.setCell ⟨s,0,none⟩ x0).setCell ⟨s,1,none⟩ x1).setCell ⟨s,2,none⟩ x2).setCell ⟨s,3,none⟩ x3).setCell ⟨s,4,none⟩ x4).setCell ⟨s,5,none⟩ x5).setCell ⟨s,6,none⟩ x6).setCell ⟨s,7,none⟩ x7).setCell ⟨s,8,none⟩ x8) (some s) :=
 (((((((((al _ s 0 x0).trans (al _ s 1 x1)).trans (al _ s 2 x2)).trans (al _ s 3 x3)).trans (al _ s 4 x4)).trans (al _ s 5 x5)).trans (al _ s 6 x6)).trans (al _ s 7 x7)).trans (al _ s 8 x8))
theorem Fq {s t:ByteArray} (h:¬s=t):(s.toList == t.toList)=false:=by
 cases hb:(s.toList == t.toList) with
 | false=>rfl
 | true=>exact absurd (iG (eq_of_beq hb)) h
theorem dj {b:Int} (h:¬a=b):(a == b)=false:=by simpa using h
set_option maxHeartbeats 4000000
def sB (k:Int):Bool:=decide (1≤k) && decide (k≤6)
def wI (n m:Int):Bool:=decide (0≤n) && decide (n≤m)
def qT (k:Int):ByteArray:=if k=1 then ⟨#[117,110,105,116]⟩ else if k=2 then ⟨#[115,112,101,108,108]⟩ else if k=3 then ⟨#[114,101,108,105,99]⟩ else ⟨#[]⟩
theorem Aj (k:Int) (w:World):Calls prog 171 #[.int .u8 k] w fun e w'=>e=.returned (.bool (sB k))∧w'=w:=by
 by_cases h:1≤k
 ·have h':(1:Int)≤k:=h;have e:sB k=decide (k≤6):=by simp[sB,h]
  rw[e];clear e;go_enter func171,ntmps171;go_wp2;go_ret;exact⟨rfl,rfl⟩
 ·have e:sB k=false:=by simp[sB,h]
  rw[e];clear e;go_enter func171,ntmps171;go_wp2;go_ret;exact⟨rfl,rfl⟩
theorem jl (n m:Int) (w:World):Calls prog 173 #[.int .i64 n,.int .i64 m] w fun e w'=>e=.returned (.bool (wI n m))∧w'=w:=by
 by_cases h:0≤n
 ·have e:wI n m=decide (n≤m):=by simp[wI,h]
  rw[e];clear e;go_enter func173,ntmps173;go_wp2;go_ret;exact⟨rfl,rfl⟩
 ·have e:wI n m=false:=by simp[wI,h]
  rw[e];clear e;go_enter func173,ntmps173;go_wp2;go_ret;exact⟨rfl,rfl⟩
theorem zL (k:Int) (w:World):Calls prog 172 #[.int .u8 k] w fun e w'=>e=.returned (.string (qT k))∧w'=w:=by
 by_cases h1:k=1
 ·subst h1;go_enter func172,ntmps172;go_wp2;go_ret;exact⟨rfl,rfl⟩
 by_cases h2:k=2
 ·subst h2;go_enter func172,ntmps172;go_wp2;go_ret;exact⟨rfl,rfl⟩
 by_cases h3:k=3
 ·subst h3;go_enter func172,ntmps172;go_wp2;go_ret;exact⟨rfl,rfl⟩
 have e:qT k=⟨#[]⟩:=by simp[qT,h1,h2,h3]
 have k1:=dj h1;have k2:=dj h2;have k3:=dj h3;rw[e];clear e h1 h2 h3;go_enter func172,ntmps172;go_wp2;go_ret;exact⟨rfl,rfl⟩
theorem gJ (s:Int) (w:World):Calls prog 175 #[.int .u16 s] w fun e w'=>e=.returned (.bool (cM s))∧w'=w:=by
 unfold cM;go_enter func175,ntmps175;go_wp2;go_ret;exact⟨rfl,rfl⟩
theorem tG (kd wn:Int) (w:World):Calls prog 238 #[.int .u8 kd,.int .u8 wn] w fun e w'=>e=.returned (.bool (gz kd wn))∧w'=w:=by
 by_cases h2:kd=2
 ·subst h2;have e:gz 2 wn=(wn == 1):=by simp[gz];by_cases h:wn=1 <;> simp[h]
  rw[e];clear e;go_enter func238,ntmps238;go_wp2;go_ret;exact⟨rfl,rfl⟩
 by_cases h3:kd=3
 ·subst h3;have e:gz 3 wn=(wn != 4):=by simp[gz];by_cases h:wn=4 <;> simp[h]
  rw[e];clear e h2;go_enter func238,ntmps238;go_wp2;go_ret;exact⟨rfl,rfl⟩
 have e:gz kd wn=true:=by simp[gz,h2,h3]
 have k2:=dj h2;have k3:=dj h3;rw[e];clear e h2 h3;go_enter func238,ntmps238;go_wp2;go_ret;exact⟨rfl,rfl⟩
def Hd.with (h:Hd) (ps:List Pt):Cd:=⟨h.nm,h.su,h.kd,h.co,h.po,h.he,h.tr,h.tk,ps⟩
def Cd.hd (c:Cd):Hd:=⟨c.nm,c.su,c.kd,c.co,c.po,c.he,c.tr,c.tk⟩
def fOk (kd po he:Int):Bool:=if kd=1 then he != 0 else (po == 0) && (he == 0)
theorem Cq (c:Cd):eK c=fOk c.kd c.po c.he:=by
 unfold eK fOk;by_cases h:c.kd=1
 ·rw[if_pos h,if_pos h];by_cases k:c.he=0 <;> simp[k]
 ·rw[if_neg h,if_neg h];by_cases k:c.he=0 <;> by_cases j:c.po=0 <;> simp[k,j]
theorem Af (h:Hd) (v:Value) (w:World):Calls prog 174 #[cv h v] w fun e w'=>e=.returned (.bool (fOk h.kd h.po h.he))∧w.grownBy w' none:=by
 obtain⟨nm,su,kd,co,po,he,tr,tk⟩:=h;unfold cv;simp only;by_cases h1:kd=1
 ·subst h1;simp only[fOk,if_true];go_enter func174,ntmps174;go_wp2;go_ret;exact⟨rfl,QG⟩
 ·have k1:=dj h1;simp only[fOk,if_neg h1];clear h1;by_cases h2:po=0
  ·subst h2;simp only[beq_self_eq_true,Bool.true_and];go_enter func174,ntmps174;go_wp2;go_ret;exact⟨rfl,QG⟩
  ·have k2:=dj h2;rw[k2,Qai];go_enter func174,ntmps174;go_wp2;go_ret;exact⟨rfl,QG⟩
theorem j8 {kd:Int} {p:Pt} (h:ps[k]?=some p):eH kd (ps.drop k)=if ¬chk p=0 then chk p else if gz kd p.wn=false then 8 else eH kd (ps.drop (k+1)):=by
 obtain⟨hk,e⟩:=Qh h;rw[Qb7 hk,e];rfl
def dF (kd:Int) (ps:List Pt) (k:Nat) (r:Int):Prop:=eH kd (ps.drop k)=r
theorem jq (h:Hd) (v:Value) (ps:List Pt) (w:World) (hp:da w v ps) (hm:bl ps.length):Calls prog 176 #[cv h v] w fun e w'=>e=.returned (.int .i64 (eH h.kd ps))∧w.grownBy w' none:=by
 obtain⟨nm,su,kd,co,po,he,tr,tk⟩:=h;by_cases h0:ps.length=0
 ·obtain rfl:=Qay h0;obtain⟨a,c,rfl⟩:=hp.form;clear hp hm h0;unfold cv;simp only[List.length_nil,eH];go_enter func176,ntmps176;go_wp2_with fail;go_loopw [9] (fun i wr=>i=.int .i64 0∧w.grownBy wr none) (fun i _=>0)
  case atStart=>exact⟨rfl,QG⟩
  case round =>
   obtain⟨rfl,G⟩:=hrel;go_wp2;go_ret;exact⟨rfl,G⟩
 ·obtain⟨g,o,c,rfl,PA⟩:=hp.part (by omega);have HA:QH (∀ j p,ps[j]?=some p→P8 w g (o+j*8) p):=PA;have HR:QH (dF kd ps 0 (eH kd ps)):=rfl;obtain⟨res,hres⟩:∃ res,eH kd ps=res:=⟨_,rfl⟩
  have HR:QH (dF kd ps 0 res):=hres;simp only;rw[hres];clear hp PA h0 hres;unfold cv;simp only;go_enter func176,ntmps176;go_wp2_with fail;go_loopw [9] (fun i wr=>∃ k:Nat,k≤ps.length∧i=.int .i64 k∧dF kd ps k res∧CAt wr w.heap.size ⟨nm,su,kd,co,po,he,tr,tk⟩ (.slice (some ⟨g,o,none⟩) ps.length c)∧w.grownBy wr none) (fun i _=>ps.length - (intOf i).toNat)
  case atStart=>exact⟨0,Q0 _,rfl,HR.o,aj w (ccs ⟨nm,su,kd,co,po,he,tr,tk⟩ _) 111,QG⟩
  case round =>
   obtain⟨k,hk,rfl,R,C,G⟩:=hrel;have HG:QH (w.grownBy wr none):=G;have HC:QH (CAt wr w.heap.size ⟨nm,su,kd,co,po,he,tr,tk⟩ (.slice (some ⟨g,o,none⟩) ps.length c)):=C;have HQ:QH (dF kd ps k res):=R;clear G C R HR
   rcases (show k=ps.length∨k<ps.length from by omega) with rfl | hlt
   ·have e:(0:Int)=res:=by
     have:=HQ.o;unfold dF at this;rw[Qbf] at this;exact this
    clear HQ HC hk hm;subst e;go_wp2;go_ret;exact⟨rfl,HG.o⟩
   ·have hlt':(k:Int)<(ps.length:Int):=(by omega);have hk0:(0:Int)≤(k:Int):=(by omega);have hw:=hm.wrap hlt;obtain⟨p,hp⟩:∃ p,ps[k]?=some p:=⟨_,Qg hlt⟩
    obtain⟨c0,c1,c2,c3,c4,c5,c6,c7⟩:=(HA.o k p hp).keep HG.o;have HP:QH (eH kd (ps.drop k)=if ¬chk p=0 then chk p else if gz kd p.wn=false then 8 else eH kd (ps.drop (k+1))):=j8 hp;clear hp;by_cases hz:chk p=0
    case neg =>
     have hz':(chk p == 0)=false:=dj hz
     have e:chk p=res:=by
      have:=HP.o;rw[if_pos hz] at this;rw[←this];exact HQ.o
     clear HP HQ hz;subst e;obtain⟨p0,p1,p2,p3,p4,p5,p6,p7⟩:=p;simp only at c0 c1 c2 c3 c4 c5 c6 c7;go_wp2_with (first | (go_at_call 237;refine(lQ ⟨p0,p1,p2,p3,p4,p5,p6,p7⟩ _).mono ?_;rintro e w1 ⟨rfl,g1⟩) | fail)
     go_ret;exact⟨rfl,aa HG.o (aa QG g1)⟩
    cases hy:gz kd p.wn with
    | false =>
     have e:(8:Int)=res:=by
      have:=HP.o;rw[if_neg (by simpa using hz),if_pos hy] at this;rw[←this];exact HQ.o
     clear HP HQ;subst e;obtain⟨p0,p1,p2,p3,p4,p5,p6,p7⟩:=p;simp only at c0 c1 c2 c3 c4 c5 c6 c7 hy;go_wp2_with (first | (go_at_call 237;refine(lQ ⟨p0,p1,p2,p3,p4,p5,p6,p7⟩ _).mono ?_;rintro e w1 ⟨rfl,g1⟩;rw[hz];have k2:=ae (ag g1 (HC.o.keep (Qa0 _ _ none)) (by simp)) 2;have k0:=(PAt.new wr ⟨p0,p1,p2,p3,p4,p5,p6,p7⟩).keep g1;have k0:=ae k0 0;simp only[ccs,List.getElem?_toArray,List.getElem?_cons_zero,List.getElem?_cons_succ] at k2 k0) | (go_at_call 238;refine(tG kd p0 _).mono ?_;rintro e w2 ⟨rfl,rfl⟩;rw[hy]) | fail)
     go_ret;exact⟨rfl,aa HG.o (aa QG g1)⟩
    | true =>
     have HN:QH (dF kd ps (k+1) res):=by
      have:=HP.o;rw[if_neg (by simpa using hz),if_neg (by rw[hy];simp)] at this;unfold QH dF;rw[←this];exact HQ.o
     clear HP HQ;obtain⟨p0,p1,p2,p3,p4,p5,p6,p7⟩:=p;simp only at c0 c1 c2 c3 c4 c5 c6 c7 hy;go_wp2_with (first | (go_at_call 237;refine(lQ ⟨p0,p1,p2,p3,p4,p5,p6,p7⟩ _).mono ?_;rintro e w1 ⟨rfl,g1⟩;rw[hz];have C1:QH (CAt w1 w.heap.size ⟨nm,su,kd,co,po,he,tr,tk⟩ (.slice (some ⟨g,o,none⟩) ps.length c)):=(HC.o.keep (Qa0 _ _ none)).keep g1;have k2:=ae C1.o 2;have k0:=(PAt.new wr ⟨p0,p1,p2,p3,p4,p5,p6,p7⟩).keep g1;have k0:=ae k0 0;simp only[ccs,List.getElem?_toArray,List.getElem?_cons_zero,List.getElem?_cons_succ] at k2 k0) | (go_at_call 238;refine(tG kd p0 _).mono ?_;rintro e w2 ⟨rfl,h9⟩;obtain rfl:w1=w2:=h9.symm;rw[hy]) | fail)
     go_roundw
     case rel=>exact⟨k+1,hlt,by go_num,HN.o,C1.o,aa HG.o (aa QG g1)⟩
     case measure=>rw[hw];exact aD hlt
set_option maxHeartbeats 8000000
theorem zD {k:Int} (h:1≤k∧k≤3):((qT k).toList == [])=false:=by
 rcases (show k=1∨k=2∨k=3 by omega) with rfl | rfl | rfl <;> rw[Lib.toList_data] <;> rfl
theorem BK {k:Int} (h:¬(1≤k∧k≤3)):((qT k).toList == [])=true:=by
 have h1:¬k=1:=by omega
 have h2:¬k=2:=by omega
 have h3:¬k=3:=by omega
 rw[Lib.toList_data];simp[qT,h1,h2,h3]
theorem GR {k:Int} (h:1≤k∧k≤6):sB k=true:=by simp[sB,h]
theorem Ia {k:Int} (h:¬(1≤k∧k≤6)):sB k=false:=by simp only[sB];by_cases a:1≤k <;> by_cases b:k≤6 <;> simp[a,b];exact absurd ⟨a,b⟩ h
theorem vT {k m:Int} (h:0≤k∧k≤m):wI k m=true:=by simp[wI,h]
theorem DD {k m:Int} (h:¬(0≤k∧k≤m)):wI k m=false:=by simp only[wI];by_cases a:0≤k <;> by_cases b:k≤m <;> simp[a,b];exact absurd ⟨a,b⟩ h
def Two (c:Cd):Prop:=¬(1≤c.su∧c.su≤6)∨¬(1≤c.kd∧c.kd≤3)
def Thr (c:Cd):Prop:=¬(0≤c.co∧c.co≤10)∨¬(0≤c.po∧c.po≤99)∨¬(0≤c.he∧c.he≤99)
def Fit (c:Cd):Prop:=eK c=false∨cM c.tr=false∨(c.kd=2∧c.tk=true)
theorem re {c:Cd} (h:aS c.nm.data.toList=false):gi c=4:=if_pos h
theorem kY {c:Cd} (n1:¬aS c.nm.data.toList=false) (h:Two c):gi c=8:=(if_neg n1).trans (if_pos h)
theorem iv {c:Cd} (n1:¬aS c.nm.data.toList=false) (n2:¬Two c) (h:Thr c):gi c=2:=(if_neg n1).trans ((if_neg n2).trans (if_pos h))
theorem dQ {c:Cd} (n1:¬aS c.nm.data.toList=false) (n2:¬Two c) (n3:¬Thr c) (h:Fit c):gi c=8:=(if_neg n1).trans ((if_neg n2).trans ((if_neg n3).trans (if_pos h)))
theorem iw {c:Cd} (n1:¬aS c.nm.data.toList=false) (n2:¬Two c) (n3:¬Thr c) (n4:¬Fit c) (h:4<c.ps.length):gi c=3:=(if_neg n1).trans ((if_neg n2).trans ((if_neg n3).trans ((if_neg n4).trans (if_pos h))))
theorem gW {c:Cd} (n1:¬aS c.nm.data.toList=false) (n2:¬Two c) (n3:¬Thr c) (n4:¬Fit c) (n5:¬4<c.ps.length):gi c=eH c.kd c.ps:=(if_neg n1).trans ((if_neg n2).trans ((if_neg n3).trans ((if_neg n4).trans (if_neg n5))))
theorem xi (h:Hd) (v:Value) (ps:List Pt) (w:World) (hp:da w v ps) (hm:bl ps.length):Calls prog 111 #[cv h v] w fun e w'=>e=.returned (.int .i64 (gi (h.with ps)))∧w.grownBy w' none:=by
 obtain⟨nm,su,kd,co,po,he,tr,tk⟩:=h;have HP:QH (da w v ps):=hp;obtain⟨a,c,rfl⟩:=hp.form;clear hp;obtain⟨C,hC⟩:=Qe (Hd.with ⟨nm,su,kd,co,po,he,tr,tk⟩ ps);rw[←hC];have E1:nm=C.nm:=by rw[hC];rfl
 have E2:su=C.su:=by rw[hC];rfl
 have E3:kd=C.kd:=by rw[hC];rfl
 have E4:co=C.co:=by rw[hC];rfl
 have E5:po=C.po:=by rw[hC];rfl
 have E6:he=C.he:=by rw[hC];rfl
 have E7:tr=C.tr:=by rw[hC];rfl
 have E8:tk=C.tk:=by rw[hC];rfl
 have E9:ps=C.ps:=by rw[hC];rfl
 have HC:QH (C=Hd.with ⟨nm,su,kd,co,po,he,tr,tk⟩ ps):=hC;have H1:QH (nm=C.nm∧su=C.su∧kd=C.kd∧co=C.co∧po=C.po∧he=C.he∧tr=C.tr∧tk=C.tk∧ps=C.ps):=⟨E1,E2,E3,E4,E5,E6,E7,E8,E9⟩
 obtain⟨res,hres⟩:∃ res,gi C=res:=⟨_,rfl⟩
 have HR:QH (gi C=res):=hres;rw[hres];clear hC E1 E2 E3 E4 E5 E6 E7 E8 E9 hres;unfold cv;simp only;go_enter func111,ntmps111;go_wp2_with fail;refine(wD nm _).mono ?_;rintro e w9 ⟨rfl,rfl⟩;cases h1:aS nm.data.toList with
 | false =>
  go_wp2;go_ret;exact⟨aO (by rw[←HR.o];exact(re (by rw[←H1.o.1];exact h1)).symm),QG⟩
 | true =>
  have n1:QH (¬aS C.nm.data.toList=false):=by unfold QH;rw[←H1.o.1,h1];simp
  clear h1;go_wp2_with fail;refine(Aj su _).mono ?_;rintro e w9 ⟨rfl,rfl⟩;by_cases hs:1≤su∧su≤6
  case neg =>
   rw[Ia hs];have T:QH (Two C):=Or.inl (by rw[←H1.o.2.1];exact hs);clear hs;go_wp2;go_ret;exact⟨aO (by rw[←HR.o];exact(kY n1.o T.o).symm),QG⟩
  rw[GR hs];have HS:QH (1≤C.su∧C.su≤6):=by unfold QH;rw[←H1.o.2.1];exact hs
  clear hs;go_wp2_with fail;refine(zL kd _).mono ?_;rintro e w9 ⟨rfl,rfl⟩;by_cases hk:1≤kd∧kd≤3
  case neg =>
   have kn:=BK hk;have T:QH (Two C):=Or.inr (by rw[←H1.o.2.2.1];exact hk);clear hk;go_wp2;go_ret;exact⟨aO (by rw[←HR.o];exact(kY n1.o T.o).symm),QG⟩
  have kn:=zD hk;have n2:QH (¬Two C):=by unfold QH Two;simp only[not_or,Decidable.not_not];exact⟨HS.o,by rw[←H1.o.2.2.1];exact hk⟩
  clear hk HS;go_wp2_with fail;refine(jl co 10 _).mono ?_;rintro e w9 ⟨rfl,rfl⟩;by_cases hx:0≤co∧co≤10
  case neg =>
   rw[DD hx];have T:QH (Thr C):=Or.inl (by rw[←H1.o.2.2.2.1];exact hx);clear hx;go_wp2;go_ret;exact⟨aO (by rw[←HR.o];exact(iv n1.o n2.o T.o).symm),QG⟩
  rw[vT hx];have Xco:QH (0≤C.co∧C.co≤10):=by unfold QH;rw[←H1.o.2.2.2.1];exact hx
  clear hx;go_wp2_with fail;refine(jl po 99 _).mono ?_;rintro e w9 ⟨rfl,rfl⟩;by_cases hx:0≤po∧po≤99
  case neg =>
   rw[DD hx];have T:QH (Thr C):=Or.inr (Or.inl (by rw[←H1.o.2.2.2.2.1];exact hx));clear hx;go_wp2;go_ret;exact⟨aO (by rw[←HR.o];exact(iv n1.o n2.o T.o).symm),QG⟩
  rw[vT hx];have Xpo:QH (0≤C.po∧C.po≤99):=by unfold QH;rw[←H1.o.2.2.2.2.1];exact hx
  clear hx;go_wp2_with fail;refine(jl he 99 _).mono ?_;rintro e w9 ⟨rfl,rfl⟩;by_cases hx:0≤he∧he≤99
  case neg =>
   rw[DD hx];have T:QH (Thr C):=Or.inr (Or.inr (by rw[←H1.o.2.2.2.2.2.1];exact hx));clear hx;go_wp2;go_ret;exact⟨aO (by rw[←HR.o];exact(iv n1.o n2.o T.o).symm),QG⟩
  rw[vT hx];have Xhe:QH (0≤C.he∧C.he≤99):=by unfold QH;rw[←H1.o.2.2.2.2.2.1];exact hx
  clear hx;have n3:QH (¬Thr C):=by unfold QH Thr;simp only[not_or,Decidable.not_not];exact⟨Xco.o,Xpo.o,Xhe.o⟩
  clear Xco Xpo Xhe;go_wp2_with fail;refine(Af ⟨nm,su,kd,co,po,he,tr,tk⟩ _ _).mono ?_;rintro e w1 ⟨rfl,g1⟩;simp only;have C1:QH (CAt w1 w.heap.size ⟨nm,su,kd,co,po,he,tr,tk⟩ (.slice a ps.length c)):=CAt.keep (aj w (ccs ⟨nm,su,kd,co,po,he,tr,tk⟩ (.slice a ps.length c)) 111) g1;have G1:QH (w.grownBy w1 none):=aa QG g1;clear g1;obtain⟨c0,c1,c2,c3,c4,c5,c6,c7,c8⟩:=C1.o.cells;simp only at c0 c1 c2 c3 c4 c5 c6 c7 c8;have F:QH (eK C=fOk kd po he):=by unfold QH;rw[Cq,←H1.o.2.2.1,←H1.o.2.2.2.2.1,←H1.o.2.2.2.2.2.1]
  cases hf:fOk kd po he with
  | false =>
   have T:QH (Fit C):=Or.inl (F.o.trans hf);go_wp2;go_ret;exact⟨aO (by rw[←HR.o];exact(dQ n1.o n2.o n3.o T.o).symm),G1.o⟩
  | true =>
   have F1:QH (¬eK C=false):=(by unfold QH;rw[F.o,hf];simp);clear hf F;go_wp2_with fail;refine(gJ tr _).mono ?_;rintro e w9 ⟨rfl,h9⟩;obtain rfl:w1=w9:=h9.symm;cases ht:cM tr with
   | false =>
    have T:QH (Fit C):=Or.inr (Or.inl (by rw[←H1.o.2.2.2.2.2.2.1];exact ht));go_wp2;go_ret;exact⟨aO (by rw[←HR.o];exact(dQ n1.o n2.o n3.o T.o).symm),G1.o⟩
   | true =>
    have F2:QH (¬cM C.tr=false):=(by unfold QH;rw[←H1.o.2.2.2.2.2.2.1,ht];simp);clear ht;by_cases hk2:kd=2
    ·cases htk:tk with
     | true =>
      have T:QH (Fit C):=Or.inr (Or.inr ⟨by rw[←H1.o.2.2.1];exact hk2,by rw[←H1.o.2.2.2.2.2.2.2.1];exact htk⟩);rw[htk] at c7;rw[hk2] at c2;go_wp2;go_ret;exact⟨aO (by rw[←HR.o];exact(dQ n1.o n2.o n3.o T.o).symm),G1.o⟩
     | false =>
      have n4:QH (¬Fit C):=by
       unfold QH Fit;rintro (h | h | ⟨_,h⟩)
       ·exact F1.o h
       ·exact F2.o h
       ·rw[←H1.o.2.2.2.2.2.2.2.1,htk] at h;cases h
      rw[htk] at c7;rw[hk2] at c2;clear F1 F2;by_cases hl:4<ps.length
      ·have hl':(4:Int)<(ps.length:Int):=(by omega);have T:QH (4<C.ps.length):=(by unfold QH;rw[←H1.o.2.2.2.2.2.2.2.2];exact hl);clear hl;go_wp2;go_ret;exact⟨aO (by rw[←HR.o];exact(iw n1.o n2.o n3.o n4.o T.o).symm),G1.o⟩
      ·have hl':¬(4:Int)<(ps.length:Int):=(by omega);have T:QH (¬4<C.ps.length):=(by unfold QH;rw[←H1.o.2.2.2.2.2.2.2.2];exact hl);clear hl;go_wp2_with fail;refine(jq ⟨nm,su,2,co,po,he,tr,false⟩ _ ps _ (HP.o.keep G1.o) hm).mono ?_;rintro e w3 ⟨rfl,g3⟩;have E:eH 2 ps=res:=(by rw[←hk2,←HR.o,gW n1.o n2.o n3.o n4.o T.o,←H1.o.2.2.1,←H1.o.2.2.2.2.2.2.2.2]);simp only;rw[E];clear E;go_wp2;go_ret;exact⟨rfl,aa G1.o g3⟩
    ·have k9:=dj hk2
     have n4:QH (¬Fit C):=by
      unfold QH Fit;rintro (h | h | ⟨h,_⟩)
      ·exact F1.o h
      ·exact F2.o h
      ·rw[←H1.o.2.2.1] at h;exact hk2 h
     clear F1 F2 hk2;by_cases hl:4<ps.length
     ·have hl':(4:Int)<(ps.length:Int):=(by omega);have T:QH (4<C.ps.length):=(by unfold QH;rw[←H1.o.2.2.2.2.2.2.2.2];exact hl);clear hl;go_wp2;go_ret;exact⟨aO (by rw[←HR.o];exact(iw n1.o n2.o n3.o n4.o T.o).symm),G1.o⟩
     ·have hl':¬(4:Int)<(ps.length:Int):=(by omega);have T:QH (¬4<C.ps.length):=(by unfold QH;rw[←H1.o.2.2.2.2.2.2.2.2];exact hl);clear hl;go_wp2_with fail;refine(jq ⟨nm,su,kd,co,po,he,tr,tk⟩ _ ps _ (HP.o.keep G1.o) hm).mono ?_;rintro e w3 ⟨rfl,g3⟩;have E:eH kd ps=res:=(by rw[←HR.o,gW n1.o n2.o n3.o n4.o T.o,←H1.o.2.2.1,←H1.o.2.2.2.2.2.2.2.2]);simp only;rw[E];clear E;go_wp2;go_ret;exact⟨rfl,aa G1.o g3⟩
set_option maxHeartbeats 1000000
theorem CAt.keepR {h:Hd} {r:Option Nat} (k:CAt w b h v) (g:w.grownBy w' r) (hr:some b≠r):CAt w' b h v:=ag g k hr
theorem qH (h:Hd) (v:Value) (ps:List Pt) (w:World) (hp:da w v ps) (hb:ps.length*40≤140737488355328):Calls prog 180 #[cv h v] w fun e w'=>∃ u,e=.returned (cv h u)∧bJ w' w.heap.size u ps∧w.grownBy w' none:=by
 obtain⟨i0,hi,hz0,hz1,hz2⟩:=mP info62;obtain⟨W2,hW2⟩:=Qe ((w.alloc (.cells (ccs h v) 111)).alloc (.cells (ccs Hd.none (.slice none 0 0)) 111));have G2:w.grownBy W2 none:=by rw[hW2];exact am QG _
 have A2:CAt W2 w.heap.size h v:=by rw[hW2];exact CAt.keep (aj w _ _) QG
 have Z2:CAt W2 (w.heap.size+1) Hd.none (.slice none 0 0):=by
  have:=aj (w.alloc (.cells (ccs h v) 111)) (ccs Hd.none (.slice none 0 0)) 111;rw[Qa3] at this;rw[hW2];exact this
 have HA2:QH (CAt W2 w.heap.size h v):=A2;have HZ2:QH (CAt W2 (w.heap.size+1) Hd.none (.slice none 0 0)):=Z2;have HG2:QH (w.grownBy W2 none):=G2;have hs2:w.heap.size+2≤W2.heap.size:=by have:=aY Z2;omega
 have HB:QH (ps.length*40≤140737488355328):=hb;unfold ccs Hd.none at hW2;clear G2 A2 Z2 hb
 rcases hp with ⟨rfl,rfl⟩ | ⟨ad,cap,rfl,hc,hcell⟩
 ·unfold cv;go_enter func180,ntmps180;go_upto_region 1 with fail;rw[←hW2];clear hW2;obtain⟨c0,c1,c2,c3,c4,c5,c6,c7,c8⟩:=HA2.o.cells;have cf:=fun i=>HA2.o.free i;obtain⟨z0,z1,z2,z3,z4,z5,z6,z7,z8⟩:=HZ2.o.cells;have zf:=fun i=>HZ2.o.free i;simp only[Hd.none] at z0 z1 z2 z3 z4 z5 z6 z7 z8;go_wp2_with fail;refine bodyPost_ret (v:=cv h (.slice none 0 0)) (by simp[results,results180,go_sem,z0,z1,z2,z3,z4,z5,z6,z7,z8,cv]) rfl ⟨.slice none 0 0,rfl,bJ.nil _ _,?_⟩;exact ak (ak HG2.o (al _ _ 8 _) (fun x e=>by cases e;exact Qj _)) (ii _ (w.heap.size+1) _ _ _ _ _ _ _ _ _) (fun x e=>by cases e;omega)
 ·have HS:QH (∀ j u,(et ps)[j]?=some u→W2.cell? (ad.add j)=some u):=fun j u hu=>HG2.o.cell (hcell j u hu) (by simp);clear hcell hc;unfold cv;go_enter func180,ntmps180;go_upto_region 1 with fail;rw[←hW2];clear hW2;obtain⟨c0,c1,c2,c3,c4,c5,c6,c7,c8⟩:=HA2.o.cells;go_upto_region 2 with (at_builtin;refine wpList_append_own_at _ rfl (.const (.slice none 0 0)) (.tmp 4) 109 rfl W2.heap.size 62 i0 _ 8 40 underlying109 hi hz0 hz1 hz2 rfl (by decide) _ 0 [] rfl (bJ.nil W2 _) ad ps.length cap (et ps) rfl (fK ps) HS.o (iR ps) (by have:=HB.o;unfold maxLen;omega) (by rw[Qa8];exact HB.o) (Qj _) ?_;intro v5 w5 o5 g5 _ _;rw[Qa8,Qaz] at o5;have O5:bJ w5 W2.heap.size v5 ps:=o5;obtain⟨a5,k5,rfl⟩:=O5.at.form;have HO5:QH (bJ w5 W2.heap.size (.slice a5 ps.length k5) ps):=O5;have A5:=HA2.o.keep g5;have Z5:=HZ2.o.keep g5;have af:=fun i=>A5.free i;have a8:=A5.cells.2.2.2.2.2.2.2.2;have HA5:QH (CAt w5 w.heap.size h (.slice (some ad) ps.length cap)):=A5;have HZ5:QH (CAt w5 (w.heap.size+1) Hd.none (.slice none 0 0)):=Z5;have HG5:QH (w.grownBy w5 none):=aa HG2.o g5;clear O5 A5 Z5 o5 c0 c1 c2 c3 c4 c5 c6 c7 c8)
  have A6:CAt (w5.setCell ⟨w.heap.size,8,none⟩ (.slice a5 ps.length k5)) w.heap.size h (.slice a5 ps.length k5):=au HA5.o 8 _;have Z6:CAt (w5.setCell ⟨w.heap.size,8,none⟩ (.slice a5 ps.length k5)) (w.heap.size+1) Hd.none (.slice none 0 0):=HZ5.o.keepR (al _ _ _ _) (by simp);have HO6:QH (bJ (w5.setCell ⟨w.heap.size,8,none⟩ (.slice a5 ps.length k5)) W2.heap.size (.slice a5 ps.length k5) ps):=HO5.o.keep (al _ _ _ _) (fun x e=>by cases e;omega);have HG6:QH (w.grownBy (w5.setCell ⟨w.heap.size,8,none⟩ (.slice a5 ps.length k5)) none):=ak HG5.o (al _ _ _ _) (fun x e=>by cases e;exact Qj _);clear HA5 HZ5 HO5 HG5 af a8;obtain⟨W6,hW6⟩:=Qe (w5.setCell ⟨w.heap.size,8,none⟩ (.slice a5 ps.length k5));rw[←hW6] at A6 Z6 HO6 HG6 ⊢;clear hW6;obtain⟨c0,c1,c2,c3,c4,c5,c6,c7,c8⟩:=A6.cells;obtain⟨z0,z1,z2,z3,z4,z5,z6,z7,z8⟩:=Z6.cells;have zf:=fun i=>Z6.free i;simp only[Hd.none] at z0 z1 z2 z3 z4 z5 z6 z7 z8;have HF:QH (bJ (((((((((W6.setCell ⟨w.heap.size+1,0,none⟩ (.string h.nm)).setCell ⟨w.heap.size+1,1,none⟩ (.int .u8 h.su)).setCell ⟨w.heap.size+1,2,none⟩ (.int .u8 h.kd)).setCell ⟨w.heap.size+1,3,none⟩ (.int .i64 h.co)).setCell ⟨w.heap.size+1,4,none⟩ (.int .i64 h.po)).setCell ⟨w.heap.size+1,5,none⟩ (.int .i64 h.he)).setCell ⟨w.heap.size+1,6,none⟩ (.int .u16 h.tr)).setCell ⟨w.heap.size+1,7,none⟩ (.bool h.tk)).setCell ⟨w.heap.size+1,8,none⟩ (.slice a5 ps.length k5)) w.heap.size (.slice a5 ps.length k5) ps):=(HO6.o.keep (ii _ (w.heap.size+1) _ _ _ _ _ _ _ _ _) (fun x e=>by cases e;omega)).big (by omega);clear A6 Z6 HO6;go_wp2;refine bodyPost_ret (v:=cv h (.slice a5 ps.length k5)) (by simp[results,results180,go_sem,z0,z1,z2,z3,z4,z5,z6,z7,z8,cv]) rfl ⟨.slice a5 ps.length k5,rfl,HF.o,?_⟩;exact ak HG6.o (ii _ (w.heap.size+1) _ _ _ _ _ _ _ _ _) (fun x e=>by cases e;omega)
