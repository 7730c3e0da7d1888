import Derived.Test.YtjmepebbcnhalaaGreatCheck
import Derived.Laws.StructEq
import Derived.Maps.AppendAt
import Derived.Laws.AppendOwnNone
import Derived.Deep.Cut
namespace Go.Proofs.YtjmepebbcnhalaaGreat
set_option maxRecDepth 100000
set_option maxHeartbeats 2000000
open Go.RowKit
variable {w w':World} {v:Value} {ps:List Pt} {g o base b:Nat} {P:Program} {a k m:Int}
def bV (p q:Pt):Bool:=decide (p.wn=q.wn∧p.vb=q.vb∧p.wm=q.wm∧p.ct=q.ct∧p.su=q.su∧p.tr=q.tr∧p.mr=q.mr∧p.nm=q.nm)
theorem yi {p q:Pt} (h:p=q):bV p q=true:=by subst h;simp[bV]
theorem nF {p q:Pt} (h:¬p=q):bV p q=false:=by
 unfold bV
 refine Qx fun e=>h ?_
 cases p
 cases q
 simp only at e
 simp[e]
theorem fN {s t:ByteArray} (h:s.toList=t.toList):s=t:=by
 rw[Lib.toList_data,Lib.toList_data] at h
 rcases s with ⟨⟨a⟩⟩
 rcases t with ⟨⟨b⟩⟩
 simp at h
 rw[h]
theorem Cf (op:BinOp) (x y:Operand) (xs ys:Array Value) (w:World):(eqGuard op 62 x y (.agg xs) (.agg ys)).run Tryz.prog w=.ok () w:=run_eqGuard_agg w op 62 x y xs ys (by kernel_rfl)
theorem rU (a0 a1 a2 a3 a4 a5 a6:Int) (s:ByteArray) (b0 b1 b2 b3 b4 b5 b6:Int) (t:ByteArray) (w:World):(Op.equalIn 10000 62 (.agg #[.int .u8 a0,.int .u8 a1,.int .u8 a2,.int .i64 a3,.int .u8 a4,.int .u8 a5,.int .u8 a6,.string s]) (.agg #[.int .u8 b0,.int .u8 b1,.int .u8 b2,.int .i64 b3,.int .u8 b4,.int .u8 b5,.int .u8 b6,.string t])).run Tryz.prog w=.ok (bV (⟨a0,a1,a2,a3,a4,a5,a6,s⟩:Pt) ⟨b0,b1,b2,b3,b4,b5,b6,t⟩) w:=by
 unfold bV
 have hS:Tryz.prog.underlying 62=some (.struct (Tryz.prog.fieldsOf 62)):=by kernel_rfl
 have hp:Tryz.prog.stoodInHeld 62=false:=by kernel_rfl
 have u3:=Tryz.underlying3
 have i3:=Tryz.isAgg3
 have z3:=Tryz.sizeOf3
 have u9:=Tryz.underlying9
 have i9:=Tryz.isAgg9
 have z9:=Tryz.sizeOf9
 have u23:=Tryz.underlying55
 have i23:=Tryz.isAgg55
 have z23:=Tryz.sizeOf55
 have u24:=Tryz.underlying56
 have i24:=Tryz.isAgg56
 have z24:=Tryz.sizeOf56
 have u25:=Tryz.underlying57
 have i25:=Tryz.isAgg57
 have z25:=Tryz.sizeOf57
 have u26:=Tryz.underlying58
 have i26:=Tryz.isAgg58
 have z26:=Tryz.sizeOf58
 have u27:=Tryz.underlying59
 have i27:=Tryz.isAgg59
 have z27:=Tryz.sizeOf59
 have u28:=Tryz.underlying60
 have i28:=Tryz.isAgg60
 have z28:=Tryz.sizeOf60
 rw[show (10000:Nat)=9999+1 from rfl,run_equalIn_agg w 9999 62 _ _ hS hp]
 simp only[Program.fieldsOf,Tryz.underlying62]
 go_simp
 by_cases h0:a0=b0
 case neg=>simp[h0]
 simp only[h0]
 by_cases h1:a1=b1
 case neg=>simp[h1]
 simp only[h1]
 by_cases h2:a2=b2
 case neg=>simp[h2]
 simp only[h2]
 by_cases h3:a3=b3
 case neg=>simp[h3]
 simp only[h3]
 by_cases h4:a4=b4
 case neg=>simp[h4]
 simp only[h4]
 by_cases h5:a5=b5
 case neg=>simp[h5]
 simp only[h5]
 by_cases h6:a6=b6
 case neg=>simp[h6]
 simp only[h6]
 by_cases h7:s=t
 case neg=>simp[h7];exact fun e=>h7 (fN e)
 simp[h7]
theorem Ch (a0 a1 a2 a3 a4 a5 a6:Int) (s:ByteArray) (b0 b1 b2 b3 b4 b5 b6:Int) (t:ByteArray) (w:World):(binOp .eql 62 (.agg #[.int .u8 a0,.int .u8 a1,.int .u8 a2,.int .i64 a3,.int .u8 a4,.int .u8 a5,.int .u8 a6,.string s]) (.agg #[.int .u8 b0,.int .u8 b1,.int .u8 b2,.int .i64 b3,.int .u8 b4,.int .u8 b5,.int .u8 b6,.string t])).run Tryz.prog w=.ok (.bool (bV (⟨a0,a1,a2,a3,a4,a5,a6,s⟩:Pt) ⟨b0,b1,b2,b3,b4,b5,b6,t⟩)) w:=by
 rw[run_eql_struct,rU];rfl
theorem AN (p q:Pt) (w:World):Calls Tryz.prog 292 #[pv p,pv q] w fun e w'=>e=.returned (.bool (bV p q))∧w.grownBy w' none:=by
 unfold pv
 have he:=Ch
 have hg:=Cf
 go_enter Tryz.func292,Tryz.ntmps292
 go_wp2
 go_ret
 exact⟨rfl,al (World.grownBy_alloc _ _ _) _⟩
def pvs (p:Pt):List Value:=[.int .u8 p.wn,.int .u8 p.vb,.int .u8 p.wm,.int .i64 p.ct,.int .u8 p.su,.int .u8 p.tr,.int .u8 p.mr,.string p.nm]
def dF:List Pt→List Value
 | []=>[]
 | p :: r=>pvs p++dF r
theorem f9:∀ ps:List Pt,(dF ps).length=ps.length*8
 | []=>rfl
 | p :: r=>by simp only[dF,Qa,f9 r,List.length_cons];simp only[pvs,List.length_cons,List.length_nil];omega
theorem i8:∀ (ps:List Pt) (j:Nat) (p:Pt),ps[j]?=some p→∀ k,k<8→(dF ps)[j*8+k]?=(pvs p)[k]?
 | [],j,p,h,k,_=>by simp at h
 | q :: r,0,p,h,k,hk=>by
  obtain rfl:q=p:=by simpa using h
  simp only[dF,Nat.zero_mul,Nat.zero_add]
  exact List.getElem?_append_left (by simpa [pvs] using hk)
 | q :: r,j+1,p,h,k,hk=>by
  have ih:=i8 r j p (by simpa using h) k hk
  simp only[dF]
  rw[List.getElem?_append_right (by simp[pvs];omega),←ih]
  congr 1
  simp[pvs]
  omega
theorem io:∀ (ps:List Pt),∀ u∈dF ps,u.oneCell'=true
 | [],u,h=>by simp[dF] at h
 | p :: r,u,h=>by
  rcases List.mem_append.1 h with h | h
  ·simp only[pvs,List.mem_cons,List.not_mem_nil,or_false] at h
   rcases h with rfl | rfl | rfl | rfl | rfl | rfl | rfl | rfl <;> rfl
  ·exact io r u h

def cD (w:World) (v:Value) (ps:List Pt):Prop:=(v=.slice none 0 0∧ps=[])∨∃ ad cap,v=.slice (some ad) ps.length cap∧ps.length≤cap∧∀ j u,(dF ps)[j]?=some u→w.cell? (ad.add j)=some u
theorem fQ {x:Addr} (h:w.cell? x=some v):x=⟨x.block,x.off,none⟩:=by
 cases x with
 | mk b o s =>
  cases s with
  | none=>rfl
  | some s =>
   exfalso
   unfold World.cell? at h
   split at h <;> simp_all
theorem de (b o j:Nat):(⟨b,o,none⟩:Addr).add j=⟨b,o+j,none⟩:=by unfold Addr.add;split <;> simp_all
theorem cD.keep (h:cD w v ps) (g:w.grownBy w' none):cD w' v ps:=by
 rcases h with h | ⟨ad,cap,e,hc,h⟩
 ·exact Or.inl h
 ·exact Or.inr ⟨ad,cap,e,hc,fun j u hu=>g.cell (h j u hu) (by simp)⟩
theorem cD.form (h:cD w v ps):∃ a cap,v=.slice a ps.length cap:=by
 rcases h with ⟨rfl,rfl⟩ | ⟨ad,cap,e,_,_⟩
 ·exact⟨none,0,rfl⟩
 ·exact⟨some ad,cap,e⟩
theorem cD.nil {a:Option Addr} {n:Nat} (h:cD w (.slice a 0 n) []) (w':World):cD w' (.slice a 0 n) []:=by
 rcases h with h | ⟨ad,cap,e,hc,_⟩
 ·exact Or.inl h
 ·exact Or.inr ⟨ad,cap,e,hc,fun j u hu=>by simp[dF] at hu⟩
structure P8 (w:World) (g o:Nat) (p:Pt):Prop where
 c0:w.cell? ⟨g,o,none⟩=some (.int .u8 p.wn)
 c1:w.cell? ⟨g,o+1,none⟩=some (.int .u8 p.vb)
 c2:w.cell? ⟨g,o+2,none⟩=some (.int .u8 p.wm)
 c3:w.cell? ⟨g,o+3,none⟩=some (.int .i64 p.ct)
 c4:w.cell? ⟨g,o+4,none⟩=some (.int .u8 p.su)
 c5:w.cell? ⟨g,o+5,none⟩=some (.int .u8 p.tr)
 c6:w.cell? ⟨g,o+6,none⟩=some (.int .u8 p.mr)
 c7:w.cell? ⟨g,o+7,none⟩=some (.string p.nm)
theorem P8.keep {p:Pt} (h:P8 w g o p) (k:w.grownBy w' none):P8 w' g o p :=
 ⟨k.cell h.c0 (by simp),k.cell h.c1 (by simp),k.cell h.c2 (by simp),k.cell h.c3 (by simp),k.cell h.c4 (by simp),k.cell h.c5 (by simp),k.cell h.c6 (by simp),k.cell h.c7 (by simp)⟩
theorem cD.part (h:cD w v ps) (h0:0<ps.length):∃ g off cap,v=.slice (some ⟨g,off,none⟩) ps.length cap∧∀ j p,ps[j]?=some p→P8 w g (off+j*8) p:=by
 rcases h with ⟨_,rfl⟩ | ⟨ad,cap,e,_,h⟩
 ·simp at h0
 ·obtain⟨q,hq⟩:∃ q,ps[0]?=some q:=⟨ps[0],Qg h0⟩
  have k0:=h 0 _ (by have:=i8 ps 0 q hq 0 (by omega);simpa [pvs] using this)
  have ea:ad.add 0=ad:=by simp[Addr.add]
  rw[ea] at k0
  have ep:=fQ k0
  refine⟨ad.block,ad.off,cap,by rw[←ep];exact e,fun j p hp=>?_⟩
  have at_:∀ k u,k<8→(pvs p)[k]?=some u→w.cell? ⟨ad.block,ad.off+(j*8+k),none⟩=some u:=fun k u hk hu=>by
   have:=h (j*8+k) u (by rw[i8 ps j p hp k hk];exact hu)
   rw[ep,de] at this
   exact this
  exact⟨at_ 0 _ (by omega) rfl,at_ 1 _ (by omega) rfl,at_ 2 _ (by omega) rfl,at_ 3 _ (by omega) rfl,at_ 4 _ (by omega) rfl,at_ 5 _ (by omega) rfl,at_ 6 _ (by omega) rfl,at_ 7 _ (by omega) rfl⟩

def bG (w:World) (base:Nat) (v:Value) (ps:List Pt):Prop:=w.ownsRow base 62 8 v ps.length (dF ps)
theorem bG.nil (w:World) (base:Nat):bG w base (.slice none 0 0) []:=⟨rfl,Or.inl ⟨rfl,rfl⟩⟩
theorem bG.keep {l:List Pt} {r:Option Nat} (h:bG w base v l) (hg:w.grownBy w' r) (hr:∀ x,r=some x→x<base):bG w' base v l:=by
 obtain⟨h1,h2⟩:=h
 refine⟨h1,?_⟩
 rcases h2 with h2 | ⟨g,cap,cur,e,hb,hh,h3⟩
 ·exact Or.inl h2
 ·exact Or.inr ⟨g,cap,cur,e,hb,ag hg hh (fun e=>by have:=hr g e.symm;omega),h3⟩
theorem bG.at (h:bG w base v ps):cD w v ps:=by
 obtain⟨h1,⟨rfl,h2⟩ | ⟨g,cap,cur,e,hb,hh,hn,hc,hz,ht⟩⟩:=h
 ·exact Or.inl ⟨rfl,List.eq_nil_of_length_eq_zero h2⟩
 ·refine Or.inr ⟨⟨g,0,none⟩,cap,e,hn,fun j u hu=>?_⟩
  rw[de,Nat.zero_add]
  have hj:j<(dF ps).length:=(Qh hu).1
  rw[←ht,List.getElem?_take_of_lt (by rw[f9] at hj;exact hj)] at hu
  simp only[World.cell?,hh]
  simpa using hu
theorem bG.block {l:List Pt} (h:bG w base v l):∀ k,v.ownBlock=some k→base≤k:=by
 obtain⟨_,⟨rfl,_⟩ | ⟨g,cap,cur,rfl,hb,_⟩⟩:=h
 ·intro k e;cases e
 ·intro k e
  cases e
  exact hb
theorem bG.big {l:List Pt} (h:bG w base v l) {b':Nat} (hb:b'≤base):bG w b' v l:=by
 obtain⟨h1,h2⟩:=h
 refine⟨h1,?_⟩
 rcases h2 with h2 | ⟨g,cap,cur,e,hg,h3⟩
 ·exact Or.inl h2
 ·exact Or.inr ⟨g,cap,cur,e,Ql hb hg,h3⟩
theorem Tryz.info62:(Tryz.prog.info? 62).map (fun i=>(i.zero,i.size,i.bytes))=some (some (.agg #[.int .u8 0,.int .u8 0,.int .u8 0,.int .i64 0,.int .u8 0,.int .u8 0,.int .u8 0,.string ByteArray.empty]),8,40):=by kernel_rfl
theorem mF {t:TypeId} {z:Option Value} {s:Nat} (h:(P.info? t).map (fun i=>(i.zero,i.size,i.bytes))=some (z,s,b)):∃ i,P.info? t=some i∧i.zero=z∧i.size=s∧i.bytes=b:=by
 cases hi:P.info? t with
 | none=>rw[hi] at h;cases h
 | some i =>
  rw[hi] at h
  simp only[Option.map_some,Option.some.injEq,Prod.mk.injEq] at h
  exact⟨i,rfl,h⟩
def ba (n:Nat):Prop:=n≤140737488355328
theorem ba.wrap {n k:Nat} (h:ba n) (hk:k<n):wrap64 ((k:Int)+1)=(k:Int)+1:=by unfold ba at h;unfold wrap64;omega
theorem aA {n k:Nat} (h:k<n):n - (intOf (.int .i64 ((k:Int)+1))).toNat<n - (intOf (.int .i64 (k:Int))).toNat:=by simp[intOf];omega
def jz (n:Nat):Prop:=(n+2)*40≤140737488355328
theorem jz.small {n:Nat} (h:jz n):ba n:=by unfold jz at h;unfold ba;omega
theorem jz.copy {n:Nat} (h:jz n):n*40≤140737488355328:=by unfold jz at h;omega
structure Hd where
 nm:ByteArray
 su:Int
 kd:Int
 co:Int
 po:Int
 he:Int
 tr:Int
 tk:Bool
def cv (h:Hd) (v:Value):Value:=.agg #[.string h.nm,.int .u8 h.su,.int .u8 h.kd,.int .i64 h.co,.int .i64 h.po,.int .i64 h.he,.int .u16 h.tr,.bool h.tk,v]
def ccs (h:Hd) (v:Value):Array Value:=#[.string h.nm,.int .u8 h.su,.int .u8 h.kd,.int .i64 h.co,.int .i64 h.po,.int .i64 h.he,.int .u16 h.tr,.bool h.tk,v]
def CAt (w:World) (b:Nat) (h:Hd) (v:Value):Prop:=w.heap[b]?=some (.cells (ccs h v) 111 (0,0))
theorem CAt.keep {h:Hd} (k:CAt w b h v) (g:w.grownBy w' none):CAt w' b h v:=ag g k (by simp)
theorem CAt.cells {h:Hd} (k:CAt w b h v):w.cell? ⟨b,0,none⟩=some (.string h.nm)∧w.cell? ⟨b,1,none⟩=some (.int .u8 h.su)∧w.cell? ⟨b,2,none⟩=some (.int .u8 h.kd)∧w.cell? ⟨b,3,none⟩=some (.int .i64 h.co)∧w.cell? ⟨b,4,none⟩=some (.int .i64 h.po)∧w.cell? ⟨b,5,none⟩=some (.int .i64 h.he)∧w.cell? ⟨b,6,none⟩=some (.int .u16 h.tr)∧w.cell? ⟨b,7,none⟩=some (.bool h.tk)∧w.cell? ⟨b,8,none⟩=some v :=
 ⟨aa k 0,aa k 1,aa k 2,aa k 3,aa k 4,aa k 5,aa k 6,aa k 7,aa k 8⟩
theorem CAt.free {h:Hd} (k:CAt w b h v) (i:Nat):w.frozen? ⟨b,i,none⟩=false:=au k i
def Hd.none:Hd:=⟨⟨#[]⟩,0,0,0,0,0,0,false⟩
theorem gB (b:World) (s:Nat) (x0 x1 x2 x3 x4 x5 x6 x7 x8:Value):b.grownBy (((((((((b.setCell ⟨s,0,none⟩ x0).setCell ⟨s,1,none⟩ x1).setCell ⟨s,2,none⟩ x2).setCell ⟨s,3,none⟩ x3).setCell ⟨s,4,none⟩ x4).setCell ⟨s,5,none⟩ x5).setCell ⟨s,6,none⟩ x6).setCell ⟨s,7,none⟩ x7).setCell ⟨s,8,none⟩ x8) (some s) :=
 (((((((((aj _ s 0 x0).trans (aj _ s 1 x1)).trans (aj _ s 2 x2)).trans (aj _ s 3 x3)).trans (aj _ s 4 x4)).trans (aj _ s 5 x5)).trans (aj _ s 6 x6)).trans (aj _ s 7 x7)).trans (aj _ s 8 x8))
theorem Df {s t:ByteArray} (h:¬s=t):(s.toList == t.toList)=false:=by
 cases hb:(s.toList == t.toList) with
 | false=>rfl
 | true=>exact absurd (fN (eq_of_beq hb)) h
theorem cP {b:Int} (h:¬a=b):(a == b)=false:=by simpa using h
set_option maxHeartbeats 4000000
def sB (k:Int):Bool:=decide (1≤k) && decide (k≤6)
def wI (n m:Int):Bool:=decide (0≤n) && decide (n≤m)
def qr (k:Int):ByteArray:=if k=1 then ⟨#[117,110,105,116]⟩ else if k=2 then ⟨#[115,112,101,108,108]⟩ else if k=3 then ⟨#[114,101,108,105,99]⟩ else ⟨#[]⟩
theorem zo (k:Int) (w:World):Calls Tryz.prog 171 #[.int .u8 k] w fun e w'=>e=.returned (.bool (sB k))∧w'=w:=by
 by_cases h:1≤k
 ·have h':(1:Int)≤k:=h
  have e:sB k=decide (k≤6):=by simp[sB,h]
  rw[e]
  clear e
  go_enter Tryz.func171,Tryz.ntmps171
  go_wp2
  go_ret
  exact⟨rfl,rfl⟩
 ·have e:sB k=false:=by simp[sB,h]
  rw[e]
  clear e
  go_enter Tryz.func171,Tryz.ntmps171
  go_wp2
  go_ret
  exact⟨rfl,rfl⟩
theorem iK (n m:Int) (w:World):Calls Tryz.prog 173 #[.int .i64 n,.int .i64 m] w fun e w'=>e=.returned (.bool (wI n m))∧w'=w:=by
 by_cases h:0≤n
 ·have e:wI n m=decide (n≤m):=by simp[wI,h]
  rw[e]
  clear e
  go_enter Tryz.func173,Tryz.ntmps173
  go_wp2
  go_ret
  exact⟨rfl,rfl⟩
 ·have e:wI n m=false:=by simp[wI,h]
  rw[e]
  clear e
  go_enter Tryz.func173,Tryz.ntmps173
  go_wp2
  go_ret
  exact⟨rfl,rfl⟩
theorem xU (k:Int) (w:World):Calls Tryz.prog 172 #[.int .u8 k] w fun e w'=>e=.returned (.string (qr k))∧w'=w:=by
 by_cases h1:k=1
 ·subst h1
  go_enter Tryz.func172,Tryz.ntmps172
  go_wp2
  go_ret
  exact⟨rfl,rfl⟩
 by_cases h2:k=2
 ·subst h2
  go_enter Tryz.func172,Tryz.ntmps172
  go_wp2
  go_ret
  exact⟨rfl,rfl⟩
 by_cases h3:k=3
 ·subst h3
  go_enter Tryz.func172,Tryz.ntmps172
  go_wp2
  go_ret
  exact⟨rfl,rfl⟩
 have e:qr k=⟨#[]⟩:=by simp[qr,h1,h2,h3]
 have k1:=cP h1
 have k2:=cP h2
 have k3:=cP h3
 rw[e]
 clear e h1 h2 h3
 go_enter Tryz.func172,Tryz.ntmps172
 go_wp2
 go_ret
 exact⟨rfl,rfl⟩
theorem fT (s:Int) (w:World):Calls Tryz.prog 175 #[.int .u16 s] w fun e w'=>e=.returned (.bool (bY s))∧w'=w:=by
 unfold bY
 go_enter Tryz.func175,Tryz.ntmps175
 go_wp2
 go_ret
 exact⟨rfl,rfl⟩
theorem sG (kd wn:Int) (w:World):Calls Tryz.prog 238 #[.int .u8 kd,.int .u8 wn] w fun e w'=>e=.returned (.bool (fH kd wn))∧w'=w:=by
 by_cases h2:kd=2
 ·subst h2
  have e:fH 2 wn=(wn == 1):=by simp[fH];by_cases h:wn=1 <;> simp[h]
  rw[e]
  clear e
  go_enter Tryz.func238,Tryz.ntmps238
  go_wp2
  go_ret
  exact⟨rfl,rfl⟩
 by_cases h3:kd=3
 ·subst h3
  have e:fH 3 wn=(wn != 4):=by simp[fH];by_cases h:wn=4 <;> simp[h]
  rw[e]
  clear e h2
  go_enter Tryz.func238,Tryz.ntmps238
  go_wp2
  go_ret
  exact⟨rfl,rfl⟩
 have e:fH kd wn=true:=by simp[fH,h2,h3]
 have k2:=cP h2
 have k3:=cP h3
 rw[e]
 clear e h2 h3
 go_enter Tryz.func238,Tryz.ntmps238
 go_wp2
 go_ret
 exact⟨rfl,rfl⟩
def Hd.with (h:Hd) (ps:List Pt):Cd:=⟨h.nm,h.su,h.kd,h.co,h.po,h.he,h.tr,h.tk,ps⟩
def Cd.hd (c:Cd):Hd:=⟨c.nm,c.su,c.kd,c.co,c.po,c.he,c.tr,c.tk⟩
def fOk (kd po he:Int):Bool:=if kd=1 then he != 0 else (po == 0) && (he == 0)
theorem AJ (c:Cd):dQ c=fOk c.kd c.po c.he:=by
 unfold dQ fOk
 by_cases h:c.kd=1
 ·rw[if_pos h,if_pos h]
  by_cases k:c.he=0 <;> simp[k]
 ·rw[if_neg h,if_neg h]
  by_cases k:c.he=0 <;> by_cases j:c.po=0 <;> simp[k,j]
theorem zt (h:Hd) (v:Value) (w:World):Calls Tryz.prog 174 #[cv h v] w fun e w'=>e=.returned (.bool (fOk h.kd h.po h.he))∧w.grownBy w' none:=by
 obtain⟨nm,su,kd,co,po,he,tr,tk⟩:=h
 unfold cv
 simp only
 by_cases h1:kd=1
 ·subst h1
  simp only[fOk,if_true]
  go_enter Tryz.func174,Tryz.ntmps174
  go_wp2
  go_ret
  exact⟨rfl,QG⟩
 ·have k1:=cP h1
  simp only[fOk,if_neg h1]
  clear h1
  by_cases h2:po=0
  ·subst h2
   simp only[beq_self_eq_true,Bool.true_and]
   go_enter Tryz.func174,Tryz.ntmps174
   go_wp2
   go_ret
   exact⟨rfl,QG⟩
  ·have k2:=cP h2
   rw[k2,Bool.false_and]
   go_enter Tryz.func174,Tryz.ntmps174
   go_wp2
   go_ret
   exact⟨rfl,QG⟩
theorem ir {kd:Int} {k:Nat} {p:Pt} (h:ps[k]?=some p):dS kd (ps.drop k)=if ¬chk p=0 then chk p else if fH kd p.wn=false then 8 else dS kd (ps.drop (k+1)):=by
 obtain⟨hk,e⟩:=Qh h
 rw[List.drop_eq_getElem_cons hk,e]
 rfl
def dn (kd:Int) (ps:List Pt) (k:Nat) (r:Int):Prop:=dS kd (ps.drop k)=r
theorem iI (h:Hd) (v:Value) (ps:List Pt) (w:World) (hp:cD w v ps) (hm:ba ps.length):Calls Tryz.prog 176 #[cv h v] w fun e w'=>e=.returned (.int .i64 (dS h.kd ps))∧w.grownBy w' none:=by
 obtain⟨nm,su,kd,co,po,he,tr,tk⟩:=h
 by_cases h0:ps.length=0
 ·obtain rfl:=List.eq_nil_of_length_eq_zero h0
  obtain⟨a,c,rfl⟩:=hp.form
  clear hp hm h0
  unfold cv
  simp only[List.length_nil,dS]
  go_enter Tryz.func176,Tryz.ntmps176
  go_wp2_with fail
  go_loopw [9] (fun i wr=>i=.int .i64 0∧w.grownBy wr none) (fun i _=>0)
  case atStart=>exact⟨rfl,QG⟩
  case round =>
   obtain⟨rfl,G⟩:=hrel
   go_wp2
   go_ret
   exact⟨rfl,G⟩
 ·obtain⟨g,o,c,rfl,PA⟩:=hp.part (by omega)
  have HA:Hid (∀ j p,ps[j]?=some p→P8 w g (o+j*8) p):=PA
  have HR:Hid (dn kd ps 0 (dS kd ps)):=rfl
  obtain⟨res,hres⟩:∃ res,dS kd ps=res:=⟨_,rfl⟩
  have HR:Hid (dn kd ps 0 res):=hres
  simp only
  rw[hres]
  clear hp PA h0 hres
  unfold cv
  simp only
  go_enter Tryz.func176,Tryz.ntmps176
  go_wp2_with fail
  go_loopw [9] (fun i wr=>∃ k:Nat,k≤ps.length∧i=.int .i64 k∧dn kd ps k res∧CAt wr w.heap.size ⟨nm,su,kd,co,po,he,tr,tk⟩ (.slice (some ⟨g,o,none⟩) ps.length c)∧w.grownBy wr none) (fun i _=>ps.length - (intOf i).toNat)
  case atStart=>exact⟨0,Q0 _,rfl,HR.out,ak w (ccs ⟨nm,su,kd,co,po,he,tr,tk⟩ _) 111,QG⟩
  case round =>
   obtain⟨k,hk,rfl,R,C,G⟩:=hrel
   have HG:Hid (w.grownBy wr none):=G
   have HC:Hid (CAt wr w.heap.size ⟨nm,su,kd,co,po,he,tr,tk⟩ (.slice (some ⟨g,o,none⟩) ps.length c)):=C
   have HQ:Hid (dn kd ps k res):=R
   clear G C R HR
   rcases (show k=ps.length∨k<ps.length from by omega) with rfl | hlt
   ·have e:(0:Int)=res:=by
     have:=HQ.out
     unfold dn at this
     rw[List.drop_length] at this
     exact this
    clear HQ HC hk hm
    subst e
    go_wp2
    go_ret
    exact⟨rfl,HG.out⟩
   ·have hlt':(k:Int)<(ps.length:Int):=by omega
    have hk0:(0:Int)≤(k:Int):=by omega
    have hw:=hm.wrap hlt
    obtain⟨p,hp⟩:∃ p,ps[k]?=some p:=⟨_,Qg hlt⟩
    obtain⟨c0,c1,c2,c3,c4,c5,c6,c7⟩:=(HA.out k p hp).keep HG.out
    have HP:Hid (dS kd (ps.drop k)=if ¬chk p=0 then chk p else if fH kd p.wn=false then 8 else dS kd (ps.drop (k+1))):=ir hp
    clear hp
    by_cases hz:chk p=0
    case neg =>
     have hz':(chk p == 0)=false:=cP hz
     have e:chk p=res:=by
      have:=HP.out
      rw[if_pos hz] at this
      rw[←this]
      exact HQ.out
     clear HP HQ hz
     subst e
     obtain⟨p0,p1,p2,p3,p4,p5,p6,p7⟩:=p
     simp only at c0 c1 c2 c3 c4 c5 c6 c7
     go_wp2_with (first | (go_at_call 237;refine(l5 ⟨p0,p1,p2,p3,p4,p5,p6,p7⟩ _).mono ?_;rintro e w1 ⟨rfl,g1⟩) | fail)
     go_ret
     exact⟨rfl,ae HG.out (ae QG g1)⟩
    cases hy:fH kd p.wn with
    | false =>
     have e:(8:Int)=res:=by
      have:=HP.out
      rw[if_neg (by simpa using hz),if_pos hy] at this
      rw[←this]
      exact HQ.out
     clear HP HQ
     subst e
     obtain⟨p0,p1,p2,p3,p4,p5,p6,p7⟩:=p
     simp only at c0 c1 c2 c3 c4 c5 c6 c7 hy
     go_wp2_with (first | (go_at_call 237;refine(l5 ⟨p0,p1,p2,p3,p4,p5,p6,p7⟩ _).mono ?_;rintro e w1 ⟨rfl,g1⟩;rw[hz];have k2:=aa (ag g1 (HC.out.keep (World.grownBy_alloc _ _ none)) (by simp)) 2;have k0:=(PAt.new wr ⟨p0,p1,p2,p3,p4,p5,p6,p7⟩).keep g1;have k0:=aa k0 0;simp only[ccs,List.getElem?_toArray,List.getElem?_cons_zero,List.getElem?_cons_succ] at k2 k0) | (go_at_call 238;refine(sG kd p0 _).mono ?_;rintro e w2 ⟨rfl,rfl⟩;rw[hy]) | fail)
     go_ret
     exact⟨rfl,ae HG.out (ae QG g1)⟩
    | true =>
     have HN:Hid (dn kd ps (k+1) res):=by
      have:=HP.out
      rw[if_neg (by simpa using hz),if_neg (by rw[hy];simp)] at this
      unfold Hid dn
      rw[←this]
      exact HQ.out
     clear HP HQ
     obtain⟨p0,p1,p2,p3,p4,p5,p6,p7⟩:=p
     simp only at c0 c1 c2 c3 c4 c5 c6 c7 hy
     go_wp2_with (first | (go_at_call 237;refine(l5 ⟨p0,p1,p2,p3,p4,p5,p6,p7⟩ _).mono ?_;rintro e w1 ⟨rfl,g1⟩;rw[hz];have C1:Hid (CAt w1 w.heap.size ⟨nm,su,kd,co,po,he,tr,tk⟩ (.slice (some ⟨g,o,none⟩) ps.length c)):=(HC.out.keep (World.grownBy_alloc _ _ none)).keep g1;have k2:=aa C1.out 2;have k0:=(PAt.new wr ⟨p0,p1,p2,p3,p4,p5,p6,p7⟩).keep g1;have k0:=aa k0 0;simp only[ccs,List.getElem?_toArray,List.getElem?_cons_zero,List.getElem?_cons_succ] at k2 k0) | (go_at_call 238;refine(sG kd p0 _).mono ?_;rintro e w2 ⟨rfl,h9⟩;obtain rfl:w1=w2:=h9.symm;rw[hy]) | fail)
     go_roundw
     case rel=>exact⟨k+1,hlt,by go_num,HN.out,C1.out,ae HG.out (ae QG g1)⟩
     case measure=>rw[hw];exact aA hlt
set_option maxHeartbeats 8000000
theorem yq (h:1≤k∧k≤3):((qr k).toList == [])=false:=by
 rcases (show k=1∨k=2∨k=3 by omega) with rfl | rfl | rfl <;> rw[Lib.toList_data] <;> rfl
theorem Bl (h:¬(1≤k∧k≤3)):((qr k).toList == [])=true:=by
 have h1:¬k=1:=by omega
 have h2:¬k=2:=by omega
 have h3:¬k=3:=by omega
 rw[Lib.toList_data]
 simp[qr,h1,h2,h3]
theorem F8 (h:1≤k∧k≤6):sB k=true:=by simp[sB,h]
theorem FJ (h:¬(1≤k∧k≤6)):sB k=false:=by simp only[sB];by_cases a:1≤k <;> by_cases b:k≤6 <;> simp[a,b];exact absurd ⟨a,b⟩ h
theorem ur (h:0≤k∧k≤m):wI k m=true:=by simp[wI,h]
theorem Cc (h:¬(0≤k∧k≤m)):wI k m=false:=by simp only[wI];by_cases a:0≤k <;> by_cases b:k≤m <;> simp[a,b];exact absurd ⟨a,b⟩ h
def Two (c:Cd):Prop:=¬(1≤c.su∧c.su≤6)∨¬(1≤c.kd∧c.kd≤3)
def Thr (c:Cd):Prop:=¬(0≤c.co∧c.co≤10)∨¬(0≤c.po∧c.po≤99)∨¬(0≤c.he∧c.he≤99)
def Fit (c:Cd):Prop:=dQ c=false∨bY c.tr=false∨(c.kd=2∧c.tk=true)
theorem qk {c:Cd} (h:aT c.nm.data.toList=false):eI c=4:=if_pos h
theorem jY {c:Cd} (n1:¬aT c.nm.data.toList=false) (h:Two c):eI c=8:=(if_neg n1).trans (if_pos h)
theorem ic {c:Cd} (n1:¬aT c.nm.data.toList=false) (n2:¬Two c) (h:Thr c):eI c=2:=(if_neg n1).trans ((if_neg n2).trans (if_pos h))
theorem dC {c:Cd} (n1:¬aT c.nm.data.toList=false) (n2:¬Two c) (n3:¬Thr c) (h:Fit c):eI c=8:=(if_neg n1).trans ((if_neg n2).trans ((if_neg n3).trans (if_pos h)))
theorem gR {c:Cd} (n1:¬aT c.nm.data.toList=false) (n2:¬Two c) (n3:¬Thr c) (n4:¬Fit c) (h:4<c.ps.length):eI c=3:=(if_neg n1).trans ((if_neg n2).trans ((if_neg n3).trans ((if_neg n4).trans (if_pos h))))
theorem fZ {c:Cd} (n1:¬aT c.nm.data.toList=false) (n2:¬Two c) (n3:¬Thr c) (n4:¬Fit c) (n5:¬4<c.ps.length):eI c=dS c.kd c.ps:=(if_neg n1).trans ((if_neg n2).trans ((if_neg n3).trans ((if_neg n4).trans (if_neg n5))))
theorem vF (h:Hd) (v:Value) (ps:List Pt) (w:World) (hp:cD w v ps) (hm:ba ps.length):Calls Tryz.prog 111 #[cv h v] w fun e w'=>e=.returned (.int .i64 (eI (h.with ps)))∧w.grownBy w' none:=by
 obtain⟨nm,su,kd,co,po,he,tr,tk⟩:=h
 have HP:Hid (cD w v ps):=hp
 obtain⟨a,c,rfl⟩:=hp.form
 clear hp
 obtain⟨C,hC⟩:=Qe (Hd.with ⟨nm,su,kd,co,po,he,tr,tk⟩ ps)
 rw[←hC]
 have E1:nm=C.nm:=by rw[hC];rfl
 have E2:su=C.su:=by rw[hC];rfl
 have E3:kd=C.kd:=by rw[hC];rfl
 have E4:co=C.co:=by rw[hC];rfl
 have E5:po=C.po:=by rw[hC];rfl
 have E6:he=C.he:=by rw[hC];rfl
 have E7:tr=C.tr:=by rw[hC];rfl
 have E8:tk=C.tk:=by rw[hC];rfl
 have E9:ps=C.ps:=by rw[hC];rfl
 have HC:Hid (C=Hd.with ⟨nm,su,kd,co,po,he,tr,tk⟩ ps):=hC
 have H1:Hid (nm=C.nm∧su=C.su∧kd=C.kd∧co=C.co∧po=C.po∧he=C.he∧tr=C.tr∧tk=C.tk∧ps=C.ps):=⟨E1,E2,E3,E4,E5,E6,E7,E8,E9⟩
 obtain⟨res,hres⟩:∃ res,eI C=res:=⟨_,rfl⟩
 have HR:Hid (eI C=res):=hres
 rw[hres]
 clear hC E1 E2 E3 E4 E5 E6 E7 E8 E9 hres
 unfold cv
 simp only
 go_enter Tryz.func111,Tryz.ntmps111
 go_wp2_with fail
 refine(vk nm _).mono ?_
 rintro e w9 ⟨rfl,rfl⟩
 cases h1:aT nm.data.toList with
 | false =>
  go_wp2
  go_ret
  exact⟨aM (by rw[←HR.out];exact(qk (by rw[←H1.out.1];exact h1)).symm),QG⟩
 | true =>
  have n1:Hid (¬aT C.nm.data.toList=false):=by unfold Hid;rw[←H1.out.1,h1];simp
  clear h1
  go_wp2_with fail
  refine(zo su _).mono ?_
  rintro e w9 ⟨rfl,rfl⟩
  by_cases hs:1≤su∧su≤6
  case neg =>
   rw[FJ hs]
   have T:Hid (Two C):=Or.inl (by rw[←H1.out.2.1];exact hs)
   clear hs
   go_wp2
   go_ret
   exact⟨aM (by rw[←HR.out];exact(jY n1.out T.out).symm),QG⟩
  rw[F8 hs]
  have HS:Hid (1≤C.su∧C.su≤6):=by unfold Hid;rw[←H1.out.2.1];exact hs
  clear hs
  go_wp2_with fail
  refine(xU kd _).mono ?_
  rintro e w9 ⟨rfl,rfl⟩
  by_cases hk:1≤kd∧kd≤3
  case neg =>
   have kn:=Bl hk
   have T:Hid (Two C):=Or.inr (by rw[←H1.out.2.2.1];exact hk)
   clear hk
   go_wp2
   go_ret
   exact⟨aM (by rw[←HR.out];exact(jY n1.out T.out).symm),QG⟩
  have kn:=yq hk
  have n2:Hid (¬Two C):=by unfold Hid Two;simp only[not_or,Decidable.not_not];exact⟨HS.out,by rw[←H1.out.2.2.1];exact hk⟩
  clear hk HS
  go_wp2_with fail
  refine(iK co 10 _).mono ?_
  rintro e w9 ⟨rfl,rfl⟩
  by_cases hx:0≤co∧co≤10
  case neg =>
   rw[Cc hx]
   have T:Hid (Thr C):=Or.inl (by rw[←H1.out.2.2.2.1];exact hx)
   clear hx
   go_wp2
   go_ret
   exact⟨aM (by rw[←HR.out];exact(ic n1.out n2.out T.out).symm),QG⟩
  rw[ur hx]
  have Xco:Hid (0≤C.co∧C.co≤10):=by unfold Hid;rw[←H1.out.2.2.2.1];exact hx
  clear hx
  go_wp2_with fail
  refine(iK po 99 _).mono ?_
  rintro e w9 ⟨rfl,rfl⟩
  by_cases hx:0≤po∧po≤99
  case neg =>
   rw[Cc hx]
   have T:Hid (Thr C):=Or.inr (Or.inl (by rw[←H1.out.2.2.2.2.1];exact hx))
   clear hx
   go_wp2
   go_ret
   exact⟨aM (by rw[←HR.out];exact(ic n1.out n2.out T.out).symm),QG⟩
  rw[ur hx]
  have Xpo:Hid (0≤C.po∧C.po≤99):=by unfold Hid;rw[←H1.out.2.2.2.2.1];exact hx
  clear hx
  go_wp2_with fail
  refine(iK he 99 _).mono ?_
  rintro e w9 ⟨rfl,rfl⟩
  by_cases hx:0≤he∧he≤99
  case neg =>
   rw[Cc hx]
   have T:Hid (Thr C):=Or.inr (Or.inr (by rw[←H1.out.2.2.2.2.2.1];exact hx))
   clear hx
   go_wp2
   go_ret
   exact⟨aM (by rw[←HR.out];exact(ic n1.out n2.out T.out).symm),QG⟩
  rw[ur hx]
  have Xhe:Hid (0≤C.he∧C.he≤99):=by unfold Hid;rw[←H1.out.2.2.2.2.2.1];exact hx
  clear hx
  have n3:Hid (¬Thr C):=by unfold Hid Thr;simp only[not_or,Decidable.not_not];exact⟨Xco.out,Xpo.out,Xhe.out⟩
  clear Xco Xpo Xhe
  go_wp2_with fail
  refine(zt ⟨nm,su,kd,co,po,he,tr,tk⟩ _ _).mono ?_
  rintro e w1 ⟨rfl,g1⟩
  simp only
  have C1:Hid (CAt w1 w.heap.size ⟨nm,su,kd,co,po,he,tr,tk⟩ (.slice a ps.length c)):=CAt.keep (ak w (ccs ⟨nm,su,kd,co,po,he,tr,tk⟩ (.slice a ps.length c)) 111) g1
  have G1:Hid (w.grownBy w1 none):=ae QG g1
  clear g1
  obtain⟨c0,c1,c2,c3,c4,c5,c6,c7,c8⟩:=C1.out.cells
  simp only at c0 c1 c2 c3 c4 c5 c6 c7 c8
  have F:Hid (dQ C=fOk kd po he):=by unfold Hid;rw[AJ,←H1.out.2.2.1,←H1.out.2.2.2.2.1,←H1.out.2.2.2.2.2.1]
  cases hf:fOk kd po he with
  | false =>
   have T:Hid (Fit C):=Or.inl (F.out.trans hf)
   go_wp2
   go_ret
   exact⟨aM (by rw[←HR.out];exact(dC n1.out n2.out n3.out T.out).symm),G1.out⟩
  | true =>
   have F1:Hid (¬dQ C=false):=by unfold Hid;rw[F.out,hf];simp
   clear hf F
   go_wp2_with fail
   refine(fT tr _).mono ?_
   rintro e w9 ⟨rfl,h9⟩
   obtain rfl:w1=w9:=h9.symm
   cases ht:bY tr with
   | false =>
    have T:Hid (Fit C):=Or.inr (Or.inl (by rw[←H1.out.2.2.2.2.2.2.1];exact ht))
    go_wp2
    go_ret
    exact⟨aM (by rw[←HR.out];exact(dC n1.out n2.out n3.out T.out).symm),G1.out⟩
   | true =>
    have F2:Hid (¬bY C.tr=false):=by unfold Hid;rw[←H1.out.2.2.2.2.2.2.1,ht];simp
    clear ht
    by_cases hk2:kd=2
    ·cases htk:tk with
     | true =>
      have T:Hid (Fit C):=Or.inr (Or.inr ⟨by rw[←H1.out.2.2.1];exact hk2,by rw[←H1.out.2.2.2.2.2.2.2.1];exact htk⟩)
      rw[htk] at c7
      rw[hk2] at c2
      go_wp2
      go_ret
      exact⟨aM (by rw[←HR.out];exact(dC n1.out n2.out n3.out T.out).symm),G1.out⟩
     | false =>
      have n4:Hid (¬Fit C):=by
       unfold Hid Fit
       rintro (h | h | ⟨_,h⟩)
       ·exact F1.out h
       ·exact F2.out h
       ·rw[←H1.out.2.2.2.2.2.2.2.1,htk] at h
        cases h
      rw[htk] at c7
      rw[hk2] at c2
      clear F1 F2
      by_cases hl:4<ps.length
      ·have hl':(4:Int)<(ps.length:Int):=by omega
       have T:Hid (4<C.ps.length):=by unfold Hid;rw[←H1.out.2.2.2.2.2.2.2.2];exact hl
       clear hl
       go_wp2
       go_ret
       exact⟨aM (by rw[←HR.out];exact(gR n1.out n2.out n3.out n4.out T.out).symm),G1.out⟩
      ·have hl':¬(4:Int)<(ps.length:Int):=by omega
       have T:Hid (¬4<C.ps.length):=by unfold Hid;rw[←H1.out.2.2.2.2.2.2.2.2];exact hl
       clear hl
       go_wp2_with fail
       refine(iI ⟨nm,su,2,co,po,he,tr,false⟩ _ ps _ (HP.out.keep G1.out) hm).mono ?_
       rintro e w3 ⟨rfl,g3⟩
       have E:dS 2 ps=res:=by rw[←hk2,←HR.out,fZ n1.out n2.out n3.out n4.out T.out,←H1.out.2.2.1,←H1.out.2.2.2.2.2.2.2.2]
       simp only
       rw[E]
       clear E
       go_wp2
       go_ret
       exact⟨rfl,ae G1.out g3⟩
    ·have k9:=cP hk2
     have n4:Hid (¬Fit C):=by
      unfold Hid Fit
      rintro (h | h | ⟨h,_⟩)
      ·exact F1.out h
      ·exact F2.out h
      ·rw[←H1.out.2.2.1] at h
       exact hk2 h
     clear F1 F2 hk2
     by_cases hl:4<ps.length
     ·have hl':(4:Int)<(ps.length:Int):=by omega
      have T:Hid (4<C.ps.length):=by unfold Hid;rw[←H1.out.2.2.2.2.2.2.2.2];exact hl
      clear hl
      go_wp2
      go_ret
      exact⟨aM (by rw[←HR.out];exact(gR n1.out n2.out n3.out n4.out T.out).symm),G1.out⟩
     ·have hl':¬(4:Int)<(ps.length:Int):=by omega
      have T:Hid (¬4<C.ps.length):=by unfold Hid;rw[←H1.out.2.2.2.2.2.2.2.2];exact hl
      clear hl
      go_wp2_with fail
      refine(iI ⟨nm,su,kd,co,po,he,tr,tk⟩ _ ps _ (HP.out.keep G1.out) hm).mono ?_
      rintro e w3 ⟨rfl,g3⟩
      have E:dS kd ps=res:=by rw[←HR.out,fZ n1.out n2.out n3.out n4.out T.out,←H1.out.2.2.1,←H1.out.2.2.2.2.2.2.2.2]
      simp only
      rw[E]
      clear E
      go_wp2
      go_ret
      exact⟨rfl,ae G1.out g3⟩
set_option maxHeartbeats 1000000
theorem CAt.keepR {h:Hd} {r:Option Nat} (k:CAt w b h v) (g:w.grownBy w' r) (hr:some b≠r):CAt w' b h v:=ag g k hr
theorem qj (h:Hd) (v:Value) (ps:List Pt) (w:World) (hp:cD w v ps) (hb:ps.length*40≤140737488355328):Calls Tryz.prog 180 #[cv h v] w fun e w'=>∃ u,e=.returned (cv h u)∧bG w' w.heap.size u ps∧w.grownBy w' none:=by
 obtain⟨i0,hi,hz0,hz1,hz2⟩:=mF Tryz.info62
 obtain⟨W2,hW2⟩:=Qe ((w.alloc (.cells (ccs h v) 111)).alloc (.cells (ccs Hd.none (.slice none 0 0)) 111))
 have G2:w.grownBy W2 none:=by rw[hW2];exact al QG _
 have A2:CAt W2 w.heap.size h v:=by rw[hW2];exact CAt.keep (ak w _ _) QG
 have Z2:CAt W2 (w.heap.size+1) Hd.none (.slice none 0 0):=by
  have:=ak (w.alloc (.cells (ccs h v) 111)) (ccs Hd.none (.slice none 0 0)) 111
  rw[World.size_alloc] at this
  rw[hW2]
  exact this
 have HA2:Hid (CAt W2 w.heap.size h v):=A2
 have HZ2:Hid (CAt W2 (w.heap.size+1) Hd.none (.slice none 0 0)):=Z2
 have HG2:Hid (w.grownBy W2 none):=G2
 have hs2:w.heap.size+2≤W2.heap.size:=by have:=aZ Z2;omega
 have HB:Hid (ps.length*40≤140737488355328):=hb
 unfold ccs Hd.none at hW2
 clear G2 A2 Z2 hb
 rcases hp with ⟨rfl,rfl⟩ | ⟨ad,cap,rfl,hc,hcell⟩
 ·unfold cv
  go_enter Tryz.func180,Tryz.ntmps180
  go_upto_region 1 with fail
  rw[←hW2]
  clear hW2
  obtain⟨c0,c1,c2,c3,c4,c5,c6,c7,c8⟩:=HA2.out.cells
  have cf:=fun i=>HA2.out.free i
  obtain⟨z0,z1,z2,z3,z4,z5,z6,z7,z8⟩:=HZ2.out.cells
  have zf:=fun i=>HZ2.out.free i
  simp only[Hd.none] at z0 z1 z2 z3 z4 z5 z6 z7 z8
  go_wp2_with fail
  refine bodyPost_ret (v:=cv h (.slice none 0 0)) (by simp[results,Tryz.results180,go_sem,z0,z1,z2,z3,z4,z5,z6,z7,z8,cv]) rfl ⟨.slice none 0 0,rfl,bG.nil _ _,?_⟩
  exact ar (ar HG2.out (aj _ _ 8 _) (fun x e=>by cases e;exact Qj _)) (gB _ (w.heap.size+1) _ _ _ _ _ _ _ _ _) (fun x e=>by cases e;omega)
 ·have HS:Hid (∀ j u,(dF ps)[j]?=some u→W2.cell? (ad.add j)=some u):=fun j u hu=>HG2.out.cell (hcell j u hu) (by simp)
  clear hcell hc
  unfold cv
  go_enter Tryz.func180,Tryz.ntmps180
  go_upto_region 1 with fail
  rw[←hW2]
  clear hW2
  obtain⟨c0,c1,c2,c3,c4,c5,c6,c7,c8⟩:=HA2.out.cells
  go_upto_region 2 with (at_builtin;refine wpList_append_own_at _ rfl (.const (.slice none 0 0)) (.tmp 4) 109 rfl W2.heap.size 62 i0 _ 8 40 Tryz.underlying109 hi hz0 hz1 hz2 rfl (by decide) _ 0 [] rfl (bG.nil W2 _) ad ps.length cap (dF ps) rfl (f9 ps) HS.out (io ps) (by have:=HB.out;unfold maxLen;omega) (by rw[Nat.zero_add];exact HB.out) (Qj _) ?_;intro v5 w5 o5 g5 _ _;rw[Nat.zero_add,List.nil_append] at o5;have O5:bG w5 W2.heap.size v5 ps:=o5;obtain⟨a5,k5,rfl⟩:=O5.at.form;have HO5:Hid (bG w5 W2.heap.size (.slice a5 ps.length k5) ps):=O5;have A5:=HA2.out.keep g5;have Z5:=HZ2.out.keep g5;have af:=fun i=>A5.free i;have a8:=A5.cells.2.2.2.2.2.2.2.2;have HA5:Hid (CAt w5 w.heap.size h (.slice (some ad) ps.length cap)):=A5;have HZ5:Hid (CAt w5 (w.heap.size+1) Hd.none (.slice none 0 0)):=Z5;have HG5:Hid (w.grownBy w5 none):=ae HG2.out g5;clear O5 A5 Z5 o5 c0 c1 c2 c3 c4 c5 c6 c7 c8)
  have A6:CAt (w5.setCell ⟨w.heap.size,8,none⟩ (.slice a5 ps.length k5)) w.heap.size h (.slice a5 ps.length k5):=aC HA5.out 8 _
  have Z6:CAt (w5.setCell ⟨w.heap.size,8,none⟩ (.slice a5 ps.length k5)) (w.heap.size+1) Hd.none (.slice none 0 0):=HZ5.out.keepR (aj _ _ _ _) (by simp)
  have HO6:Hid (bG (w5.setCell ⟨w.heap.size,8,none⟩ (.slice a5 ps.length k5)) W2.heap.size (.slice a5 ps.length k5) ps):=HO5.out.keep (aj _ _ _ _) (fun x e=>by cases e;omega)
  have HG6:Hid (w.grownBy (w5.setCell ⟨w.heap.size,8,none⟩ (.slice a5 ps.length k5)) none):=ar HG5.out (aj _ _ _ _) (fun x e=>by cases e;exact Qj _)
  clear HA5 HZ5 HO5 HG5 af a8
  obtain⟨W6,hW6⟩:=Qe (w5.setCell ⟨w.heap.size,8,none⟩ (.slice a5 ps.length k5))
  rw[←hW6] at A6 Z6 HO6 HG6 ⊢
  clear hW6
  obtain⟨c0,c1,c2,c3,c4,c5,c6,c7,c8⟩:=A6.cells
  obtain⟨z0,z1,z2,z3,z4,z5,z6,z7,z8⟩:=Z6.cells
  have zf:=fun i=>Z6.free i
  simp only[Hd.none] at z0 z1 z2 z3 z4 z5 z6 z7 z8
  have HF:Hid (bG (((((((((W6.setCell ⟨w.heap.size+1,0,none⟩ (.string h.nm)).setCell ⟨w.heap.size+1,1,none⟩ (.int .u8 h.su)).setCell ⟨w.heap.size+1,2,none⟩ (.int .u8 h.kd)).setCell ⟨w.heap.size+1,3,none⟩ (.int .i64 h.co)).setCell ⟨w.heap.size+1,4,none⟩ (.int .i64 h.po)).setCell ⟨w.heap.size+1,5,none⟩ (.int .i64 h.he)).setCell ⟨w.heap.size+1,6,none⟩ (.int .u16 h.tr)).setCell ⟨w.heap.size+1,7,none⟩ (.bool h.tk)).setCell ⟨w.heap.size+1,8,none⟩ (.slice a5 ps.length k5)) w.heap.size (.slice a5 ps.length k5) ps):=(HO6.out.keep (gB _ (w.heap.size+1) _ _ _ _ _ _ _ _ _) (fun x e=>by cases e;omega)).big (by omega)
  clear A6 Z6 HO6
  go_wp2
  refine bodyPost_ret (v:=cv h (.slice a5 ps.length k5)) (by simp[results,Tryz.results180,go_sem,z0,z1,z2,z3,z4,z5,z6,z7,z8,cv]) rfl ⟨.slice a5 ps.length k5,rfl,HF.out,?_⟩
  exact ar HG6.out (gB _ (w.heap.size+1) _ _ _ _ _ _ _ _ _) (fun x e=>by cases e;omega)
end Go.Proofs.YtjmepebbcnhalaaGreat
