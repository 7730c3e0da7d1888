import Derived.Test.YtjmepebbcnhalaaGreatZ3
import Derived.Deep.CutRange
import Derived.Deep.CutBlock
import Derived.Maps.RangeWalk
import Derived.Ground.MpProg
import Derived.Shelf.Strconv.Clone
namespace Go.Proofs.YtjmepebbcnhalaaGreat
open Tryz
open Go.RowKit
variable {w w':World} {b g o k:Nat} {junk:List Value} {v:Value} {ok:Nat→Prop} {ps:List Pt}
structure Mk where
 mi:Int
 nm:ByteArray
 po:Int
 he:Int
def Mk.none:Mk:=⟨0,⟨#[]⟩,0,0⟩
def mvs (m:Mk):List Value:=[.int .u8 m.mi,.string m.nm,.int .i64 m.po,.int .i64 m.he]
def mv (m:Mk):Value:=.agg #[.int .u8 m.mi,.string m.nm,.int .i64 m.po,.int .i64 m.he]
def gg:List Mk→List Value
 | []=>[]
 | m :: r=>mvs m++gg r
theorem lz:∀ (ms:List Mk) (j:Nat) (m:Mk),ms[j]?=some m→∀ k,k<4→(gg ms)[j*4+k]?=(mvs m)[k]?
 | [],j,m,h,k,_=>by simp at h
 | q :: r,0,m,h,k,hk=>by
  obtain rfl:q=m:=by simpa using h
  simp only[gg,Nat.zero_mul,Nat.zero_add];exact Qb1 (by simpa [mvs] using hk)
 | q :: r,j+1,m,h,k,hk=>by
  have ih:=lz r j m (by simpa using h) k hk;simp only[gg];rw[Qap (by simp[mvs];omega),←ih]
  congr 1
  simp[mvs];omega
structure Ent where
 h:Hd
 v:Value
 ps:List Pt
def Ent.cd (e:Ent):Cd:=e.h.with e.ps
def cvs (h:Hd) (v:Value):List Value:=[.string h.nm,.int .u8 h.su,.int .u8 h.kd,.int .i64 h.co,.int .i64 h.po,.int .i64 h.he,.int .u16 h.tr,.bool h.tk,v]
def aH:List Ent→List Value
 | []=>[]
 | e :: r=>cvs e.h e.v++aH r
theorem aP:∀ es:List Ent,(aH es).length=es.length*9
 | []=>rfl
 | e :: r=>by simp only[aH,Qa,aP r,List.length_cons];simp only[cvs,List.length_cons,List.length_nil];omega
theorem gG:∀ a b:List Ent,aH (a++b)=aH a++aH b
 | [],b=>rfl
 | e :: r,b=>by simp only[List.cons_append,aH,gG r b,List.append_assoc]
theorem lm:∀ (es:List Ent) (j:Nat) (e:Ent),es[j]?=some e→∀ k,k<9→(aH es)[j*9+k]?=(cvs e.h e.v)[k]?
 | [],j,e,h,k,_=>by simp at h
 | q :: r,0,e,h,k,hk=>by
  obtain rfl:q=e:=by simpa using h
  simp only[aH,Nat.zero_mul,Nat.zero_add];exact Qb1 (by simpa [cvs] using hk)
 | q :: r,j+1,e,h,k,hk=>by
  have ih:=lm r j e (by simpa using h) k hk;simp only[aH];rw[Qap (by simp[cvs];omega),←ih]
  congr 1
  simp[cvs];omega
structure Pl where
 shut:Bool
 nms:List ByteArray
 mks:List Mk
def plc (n:Nat) (p:Pl):List Value:=.bool true :: .bool p.shut :: .int .i64 (n:Int) :: (p.nms.map Value.string++gg p.mks)
def jU (es:List Ent) (junk:List Value) (p:Pl):List Value:=aH es++(junk++plc es.length p)
structure BkJ (w:World) (b:Nat) (es:List Ent) (junk:List Value) (p:Pl):Prop where
 lies:w.heap[b]?=some (.cells (jU es junk p).toArray 196 (0,0))
 fit:es.length*9+junk.length=576
 nine:p.nms.length=9
 five:p.mks.length=5
def ee (w:World) (b:Nat) (es:List Ent) (p:Pl):Prop:=∃ junk,BkJ w b es junk p
theorem BkJ.cell {es:List Ent} {p:Pl} (h:BkJ w b es junk p) (i:Nat):w.cell? ⟨b,i,none⟩=(jU es junk p)[i]?:=by
 rw[ae h.lies i];simp
theorem BkJ.tail {es:List Ent} {p:Pl} (h:BkJ w b es junk p) (i:Nat):w.cell? ⟨b,576+i,none⟩=(plc es.length p)[i]?:=by
 rw[h.cell];unfold jU;rw[Qap (by rw[aP];have:=h.fit;omega),Qap (by rw[aP];have:=h.fit;omega)]
 congr 1
 rw[aP];have:=h.fit;omega
structure C9 (w:World) (g o:Nat) (h:Hd) (v:Value):Prop where
 c0:w.cell? ⟨g,o,none⟩=some (.string h.nm)
 c1:w.cell? ⟨g,o+1,none⟩=some (.int .u8 h.su)
 c2:w.cell? ⟨g,o+2,none⟩=some (.int .u8 h.kd)
 c3:w.cell? ⟨g,o+3,none⟩=some (.int .i64 h.co)
 c4:w.cell? ⟨g,o+4,none⟩=some (.int .i64 h.po)
 c5:w.cell? ⟨g,o+5,none⟩=some (.int .i64 h.he)
 c6:w.cell? ⟨g,o+6,none⟩=some (.int .u16 h.tr)
 c7:w.cell? ⟨g,o+7,none⟩=some (.bool h.tk)
 c8:w.cell? ⟨g,o+8,none⟩=some v
theorem C9.keep {h:Hd} (k:C9 w g o h v) (hg:w.grownBy w' none):C9 w' g o h v :=
 ⟨hg.cell k.c0 (by simp),hg.cell k.c1 (by simp),hg.cell k.c2 (by simp),hg.cell k.c3 (by simp),hg.cell k.c4 (by simp),hg.cell k.c5 (by simp),hg.cell k.c6 (by simp),hg.cell k.c7 (by simp),hg.cell k.c8 (by simp)⟩
def mI (w:World) (g o:Nat) (es:List Ent):Prop:=∀ (j:Nat) e,es[j]?=some e→C9 w g (o+j*9) e.h e.v
theorem mI.keep {es:List Ent} (h:mI w g o es) (k:w.grownBy w' none):mI w' g o es:=fun j e he=>(h j e he).keep k
theorem BkJ.row {es:List Ent} {p:Pl} (h:BkJ w b es junk p):mI w b 0 es:=fun j e he=>by
 have hj:j<es.length:=(Qh he).1
 have at_:∀ k u,k<9→(cvs e.h e.v)[k]?=some u→w.cell? ⟨b,0+j*9+k,none⟩=some u:=fun k u hk hu=>by
  rw[Qa8,h.cell];unfold jU;rw[Qb1 (by rw[aP];omega),lm es j e he k hk];exact hu
 exact⟨at_ 0 _ (by omega) rfl,at_ 1 _ (by omega) rfl,at_ 2 _ (by omega) rfl,at_ 3 _ (by omega) rfl,at_ 4 _ (by omega) rfl,at_ 5 _ (by omega) rfl,at_ 6 _ (by omega) rfl,at_ 7 _ (by omega) rfl,at_ 8 _ (by omega) rfl⟩
structure iL (w:World) (b:Nat) (n:Nat) (p:Pl):Prop where
 made:w.cell? ⟨b,576,none⟩=some (.bool true)
 shut:w.cell? ⟨b,577,none⟩=some (.bool p.shut)
 count:w.cell? ⟨b,578,none⟩=some (.int .i64 (n:Int))
theorem BkJ.flags {es:List Ent} {p:Pl} (h:BkJ w b es junk p):iL w b es.length p :=
 ⟨h.tail 0,h.tail 1,h.tail 2⟩
theorem BkJ.name {es:List Ent} {p:Pl} (h:BkJ w b es junk p) {t:Nat} {s:ByteArray} (ht:p.nms[t]?=some s):w.cell? ⟨b,579+t,none⟩=some (.string s):=by
 have hl:t<p.nms.length:=(Qh ht).1;have:=h.tail (3+t);rw[show 576+(3+t)=579+t by omega] at this;rw[this];unfold plc;rw[show 3+t=t+1+1+1 by omega,Qaj,Qaj,Qaj,Qb1 (by simpa using hl),Qak,ht];rfl
structure M4 (w:World) (g o:Nat) (m:Mk):Prop where
 c0:w.cell? ⟨g,o,none⟩=some (.int .u8 m.mi)
 c1:w.cell? ⟨g,o+1,none⟩=some (.string m.nm)
 c2:w.cell? ⟨g,o+2,none⟩=some (.int .i64 m.po)
 c3:w.cell? ⟨g,o+3,none⟩=some (.int .i64 m.he)
theorem M4.keep {m:Mk} (k:M4 w g o m) (hg:w.grownBy w' none):M4 w' g o m :=
 ⟨hg.cell k.c0 (by simp),hg.cell k.c1 (by simp),hg.cell k.c2 (by simp),hg.cell k.c3 (by simp)⟩
theorem BkJ.mark {es:List Ent} {p:Pl} (h:BkJ w b es junk p) {t:Nat} {m:Mk} (ht:p.mks[t]?=some m):M4 w b (588+t*4) m:=by
 have hl:t<p.mks.length:=(Qh ht).1
 have at_:∀ k u,k<4→(mvs m)[k]?=some u→w.cell? ⟨b,588+t*4+k,none⟩=some u:=fun k u hk hu=>by
  have:=h.tail (12+(t*4+k));rw[show 576+(12+(t*4+k))=588+t*4+k by omega] at this;rw[this];unfold plc;rw[show 12+(t*4+k)=9+(t*4+k)+1+1+1 by omega,Qaj,Qaj,Qaj,Qap (by simp[h.nine]),Qa9,h.nine];rw[show 9+(t*4+k) - 9=t*4+k by omega,lz _ _ _ ht k hk];exact hu
 exact⟨at_ 0 _ (by omega) rfl,at_ 1 _ (by omega) rfl,at_ 2 _ (by omega) rfl,at_ 3 _ (by omega) rfl⟩
theorem BkJ.free {es:List Ent} {p:Pl} (h:BkJ w b es junk p) (i:Nat):w.frozen? ⟨b,i,none⟩=false:=aq h.lies i
theorem BkJ.keepR {es:List Ent} {p:Pl} {r:Option Nat} (h:BkJ w b es junk p) (g:w.grownBy w' r) (hr:some b≠r):BkJ w' b es junk p:=⟨ag g h.lies hr,h.fit,h.nine,h.five⟩
theorem BkJ.keep {es:List Ent} {p:Pl} (h:BkJ w b es junk p) (g:w.grownBy w' none):BkJ w' b es junk p:=h.keepR g (by simp)
theorem ee.keepR {es:List Ent} {p:Pl} {r:Option Nat} (h:ee w b es p) (g:w.grownBy w' r) (hr:some b≠r):ee w' b es p:=h.imp fun _ k=>k.keepR g hr
theorem ee.keep {es:List Ent} {p:Pl} (h:ee w b es p) (g:w.grownBy w' none):ee w' b es p:=h.keepR g (by simp)
theorem ee.len {es:List Ent} {p:Pl} (h:ee w b es p):es.length≤64:=by obtain⟨j,h⟩:=h;have:=h.fit;omega
theorem ee.row {es:List Ent} {p:Pl} (h:ee w b es p):mI w b 0 es:=by obtain⟨j,h⟩:=h;exact h.row
theorem ee.flags {es:List Ent} {p:Pl} (h:ee w b es p):iL w b es.length p:=by obtain⟨j,h⟩:=h;exact h.flags

def ja (ok:Nat→Prop) (w:World) (v:Value) (ps:List Pt):Prop:=da w v ps∧∀ g o n c,v=.slice (some ⟨g,o,none⟩) n c→0<n→ok g
theorem ja.keep (h:ja ok w v ps) (g:w.grownBy w' none):ja ok w' v ps:=⟨h.1.keep g,h.2⟩
theorem ja.mono {ok':Nat→Prop} (h:ja ok w v ps) (k:∀ i,ok i→ok' i):ja ok' w v ps:=⟨h.1,fun g o n c e hn=>k g (h.2 g o n c e hn)⟩
theorem ja.keepR {r:Option Nat} (h:ja ok w v ps) (g:w.grownBy w' r) (hr:∀ k,ok k→some k≠r):ja ok w' v ps:=by
 refine⟨?_,h.2⟩;by_cases h0:0<ps.length
 ·obtain⟨b,o,cap,ev,_⟩:=h.1.part h0;have hb:=h.2 b o _ _ ev h0
  rcases h.1 with ⟨_,hn⟩ | ⟨ad,cap',e,hc,k⟩
  ·rw[hn] at h0;simp at h0
  ·rw[ev] at e;injection e with e1 _ _;injection e1 with e1;subst e1;refine Or.inr ⟨_,cap',by rw[ev];congr,hc,fun j u hu=>g.cell (k j u hu) (by rw[dq];exact hr b hb)⟩
 ·obtain rfl:ps=[]:=Qay (by omega);obtain⟨a,cap,rfl⟩:=h.1.form;exact da.nil h.1 w'
def dA (ok:Nat→Prop) (w:World) (es:List Ent):Prop:=∀ e∈es,ja ok w e.v e.ps
theorem dA.keep {es:List Ent} (h:dA ok w es) (g:w.grownBy w' none):dA ok w' es:=fun e he=>(h e he).keep g
theorem dA.keepR {es:List Ent} {r:Option Nat} (h:dA ok w es) (g:w.grownBy w' r) (hr:∀ k,ok k→some k≠r):dA ok w' es:=fun e he=>(h e he).keepR g hr
theorem dA.mono {ok':Nat→Prop} {es:List Ent} (h:dA ok w es) (k:∀ i,ok i→ok' i):dA ok' w es:=fun e he=>(h e he).mono k
set_option maxRecDepth 100000
def iQ:Pl:=⟨false,List.replicate 9 ⟨#[]⟩,List.replicate 5 Mk.none⟩
def Gp:List Value:=cvs Hd.none (.slice none 0 0)
def sL:Nat→List Value
 | 0=>[]
 | n+1=>Gp++sL n
def plA:Array Value:=(plc 0 iQ).toArray
def bkA:Array Value:=(jU [] (sL 64) iQ).toArray
theorem ui (w:World):(Instr.build 193 #[(0,.bool true)]).run prog w=.ok (.agg plA) w:=by kernel_rfl
theorem tW (w:World):(Instr.build 196 #[(1,.agg plA)]).run prog w=.ok (.agg bkA) w:=by kernel_rfl
theorem Ax (cs:Array Value) (w:World):(Instr.box 196 (.agg cs)).run prog w=.ok (.pointer (some ⟨w.heap.size,0,none⟩)) (w.alloc (.cells cs 196)):=rfl
theorem Ea (w:World):Calls prog 48 #[] w fun e w'=>e=.returned (.pointer (some ⟨w.heap.size,0,none⟩))∧ee w' w.heap.size [] iQ∧w.grownBy w' none∧w'.heap.size=w.heap.size+1:=by
 go_enter func48,ntmps48;go_wp2_with (first | (refine lu ?g 193 #[(0,.const (.bool true))] ?ho #[(0,.bool true)] ?hv (.agg plA) (ui _) ?_;(case g=>rfl);(case ho=>rfl);(case hv=>simp[Act.eval])) | (refine lu ?g 196 #[(1,.tmp 1)] ?ho #[(1,.agg plA)] ?hv (.agg bkA) (tW _) ?_;(case g=>rfl);(case ho=>rfl);(case hv=>simp[Act.eval])) | (refine yS ?g 196 (.tmp 2) ?ho (.agg bkA) ?hv _ (Ax bkA _) ?_;(case g=>rfl);(case ho=>rfl);(case hv=>simp[Act.eval])) | fail)
 go_ret;refine⟨rfl,⟨sL 64,?_,rfl,rfl,rfl⟩,Qa0 w _ none,by simp⟩;exact aj w bkA 196

def pE (w:World) (v:Value):Prop:=v=.pointer none∨∃ b,v=.pointer (some ⟨b,0,none⟩)∧w.cell? ⟨b,576,none⟩=some (.bool false)
theorem pE.keep (h:pE w v) (g:w.grownBy w' none):pE w' v:=by
 rcases h with h | ⟨b,e,h⟩
 ·exact Or.inl h
 ·exact Or.inr ⟨b,e,g.cell h (by simp)⟩
theorem gM (b:Nat) (n:Nat) (p:Pl) (w:World) (F:iL w b n p):Calls prog 128 #[.pointer (some ⟨b,0,none⟩)] w fun e w'=>e=.returned (.bool true)∧w'=w:=by
 have c:=F.made;go_enter func128,ntmps128;go_wp2;go_ret;exact⟨rfl,rfl⟩
theorem Au (v:Value) (w:World) (h:pE w v):Calls prog 128 #[v] w fun e w'=>e=.returned (.bool false)∧w'=w:=by
 rcases h with rfl | ⟨b,rfl,c⟩
 ·go_enter func128,ntmps128;go_wp2;go_ret;exact⟨rfl,rfl⟩
 ·go_enter func128,ntmps128;go_wp2;go_ret;exact⟨rfl,rfl⟩
theorem js (b:Nat) (n:Nat) (p:Pl) (w:World) (F:iL w b n p):Calls prog 110 #[.pointer (some ⟨b,0,none⟩)] w fun e w'=>e=.returned (.int .i64 (if p.shut then 7 else 0))∧w'=w:=by
 have c:=F.shut;have HF:QH (iL w b n p):=F;cases hs:p.shut
 all_goals
  rw[hs] at c;go_enter func110,ntmps110;go_wp2_with (first | (go_at_call 128;refine(gM b n p _ HF.o).mono ?_;rintro e w1 ⟨rfl,h1⟩;obtain rfl:w=w1:=h1.symm) | fail)
  go_ret;exact⟨rfl,rfl⟩
theorem l0 (b:Nat) (n:Nat) (hn:n≤64) (p:Pl) (w:World) (F:iL w b n p):Calls prog 126 #[.pointer (some ⟨b,0,none⟩)] w fun e w'=>e=.returned (.slice (some ⟨b,0,none⟩) n 64)∧w.grownBy w' none∧w'.heap.size=w.heap.size:=by
 have c:=F.count;have HF:QH (iL w b n p):=F;have h0:(0:Int)≤(n:Int):=by omega
 have h1:(n:Int)≤64:=by omega
 go_enter func126,ntmps126;go_wp2_with (first | (go_at_call 128;refine(gM b n p _ HF.o).mono ?_;rintro e w1 ⟨rfl,h1⟩;obtain rfl:w=w1:=h1.symm) | fail)
 go_quiet (fail);go_wp2;go_ret;exact⟨rfl,aA _ _ _,rfl⟩
theorem ka (b:Nat) (n:Nat) (p:Pl) (w:World) (F:iL w b n p):Calls prog 57 #[.pointer (some ⟨b,0,none⟩)] w fun e w'=>e=.returned (.bool p.shut)∧w'=w:=by
 have c:=F.shut;have HF:QH (iL w b n p):=F;go_enter func57,ntmps57;go_wp2_with (first | (go_at_call 128;refine(gM b n p _ HF.o).mono ?_;rintro e w1 ⟨rfl,h1⟩;obtain rfl:w=w1:=h1.symm) | fail)
 go_ret;exact⟨rfl,rfl⟩
theorem EU (b:Nat) (n:Nat) (hn:n≤64) (p:Pl) (w:World) (F:iL w b n p):Calls prog 251 #[.pointer (some ⟨b,0,none⟩)] w fun e w'=>e=.returned (.int .i64 n)∧w.grownBy w' none∧w'.heap.size=w.heap.size:=by
 go_enter func251,ntmps251;go_wp2_with (first | (go_at_call 126;refine(l0 b n hn p _ F).mono ?_;rintro e w1 ⟨rfl,g1,s1⟩) | fail)
 go_ret;exact⟨rfl,g1,s1⟩
set_option maxHeartbeats 2000000
def pos:List ByteArray→ByteArray→Int
 | [],_=>-1
 | x :: r,s=>if x=s then 0 else if pos r s<0 then -1 else pos r s+1
theorem mT:∀ (l:List ByteArray) (s:ByteArray),-1≤pos l s∧pos l s<l.length
 | [],s=>by simp[pos]
 | x :: r,s=>by
  have:=mT r s;simp only[pos,List.length_cons];split
  ·omega
  ·split <;> omega
theorem rM:∀ (l:List ByteArray) (s:ByteArray) (k:Nat),l[k]?=some s→(∀ (j:Nat) x,j<k→l[j]?=some x→¬x=s)→pos l s=k
 | [],s,k,h,_=>by simp at h
 | x :: r,s,0,h,_=>by
  obtain rfl:x=s:=by simpa using h
  simp[pos]
 | x :: r,s,k+1,h,hn=>by
  have hx:¬x=s:=hn 0 x (by omega) rfl;have ih:=rM r s k (by simpa using h) (fun j y hj hy=>hn (j+1) y (by omega) (by simpa using hy));simp only[pos,if_neg hx,ih];rw[if_neg (by omega)];omega
theorem pi:∀ (l:List ByteArray) (s:ByteArray),(∀ (j:Nat) x,l[j]?=some x→¬x=s)→pos l s=-1
 | [],s,_=>rfl
 | x :: r,s,hn=>by
  have ih:=pi r s (fun j y hy=>hn (j+1) y (by simpa using hy));simp only[pos,if_neg (hn 0 x rfl),ih];rfl
theorem yX:∀ (l:List ByteArray) (s:ByteArray),0≤pos l s→l[(pos l s).toNat]?=some s
 | [],s,h=>by simp[pos] at h
 | x :: r,s,h=>by
  simp only[pos] at h ⊢;by_cases hx:x=s
  ·simp[hx]
  ·rw[if_neg hx] at h ⊢;by_cases hp:pos r s<0
   ·rw[if_pos hp] at h;omega
   ·rw[if_neg hp];have ih:=yX r s (by omega);rw[show (pos r s+1).toNat=(pos r s).toNat+1 by omega,Qaj];exact ih
theorem sl {l:List ByteArray} {s:ByteArray} (h:pos l s<0):s ∉ l:=by
 induction l with
 | nil=>simp
 | cons x r ih =>
  simp only[pos] at h;by_cases hx:x=s
  ·rw[if_pos hx] at h;omega
  ·rw[if_neg hx] at h;by_cases hp:pos r s<0
   ·intro hm
    rcases Qbo.1 hm with e | e
    ·exact hx e.symm
    ·exact ih hp e
   ·rw[if_neg hp] at h;omega
def bL (es:List Ent):List ByteArray:=es.map fun e=>e.h.nm
theorem Cn {es:List Ent} {e:Ent} (h:es[k]?=some e):(bL es)[k]?=some e.h.nm:=by simp[bL,h]
theorem rm (es:List Ent):(bL es).length=es.length:=by simp[bL]
theorem jg {s t:ByteArray} (h:¬s=t):(s.toList == t.toList)=false:=Fq h
theorem iI {s t:ByteArray} (h:s=t):(s.toList == t.toList)=true:=by subst h;simp
theorem pD (h:Hd) (v:Value) (x:Nat) (s:ByteArray) (w:World) (hx:w.cell? ⟨x,0,none⟩=some (.string s)) (hl:∃ a n c,v=.slice a n c):Calls prog 240 #[cv h v,.pointer (some ⟨x,0,none⟩)] w fun e w'=>e=.returned (.bool (decide (h.nm=s)))∧w.grownBy w' none:=by
 obtain⟨a,n,c,rfl⟩:=hl;obtain⟨nm,su,kd,co,po,he,tr,tk⟩:=h;unfold cv;simp only;have hx':(w.alloc (.cells (ccs ⟨nm,su,kd,co,po,he,tr,tk⟩ (.slice a n c)) 111)).cell? ⟨x,0,none⟩=some (.string s):=QG.cell hx (by simp);unfold ccs at hx';by_cases e:nm=s
 ·have k:=iI e;rw[Qy e];clear e hx;go_enter func240,ntmps240;go_wp2;go_ret;exact⟨rfl,QG⟩
 ·have k:=jg e;rw[Qx e];clear e hx;go_enter func240,ntmps240;go_wp2;go_ret;exact⟨rfl,QG⟩
def ir (es:List Ent) (s:ByteArray) (k:Nat):Prop:=∀ (j:Nat) e,j<k→es[j]?=some e→¬e.h.nm=s
theorem qc {es:List Ent} {s:ByteArray} {e:Ent} (h:ir es s k) (he:es[k]?=some e) (hs:e.h.nm=s):pos (bL es) s=k:=by
 subst hs;refine rM _ _ _ (Cn he) fun j x hj hx=>?_;simp only[bL,List.getElem?_map,Option.map_eq_some_iff] at hx;obtain⟨a,ha,rfl⟩:=hx;exact h j a hj ha
theorem nZ {es:List Ent} {s:ByteArray} (h:ir es s es.length):pos (bL es) s=-1:=by
 refine pi _ _ fun j x hx=>?_;simp only[bL,List.getElem?_map,Option.map_eq_some_iff] at hx;obtain⟨a,ha,rfl⟩:=hx;exact h j a (Qh ha).1 ha
theorem mg {es:List Ent} {s:ByteArray} {e:Ent} (h:ir es s k) (he:es[k]?=some e) (hs:¬e.h.nm=s):ir es s (k+1):=fun j x hj hx=>by
 rcases (show j<k∨j=k by omega) with hj | rfl
 ·exact h j x hj hx
 ·rw[he] at hx;cases hx;exact hs
def Slc (es:List Ent):Prop:=∀ e∈es,∃ a n c,e.v=.slice a n c
theorem dA.slc {es:List Ent} (h:dA ok w es):Slc es:=fun e he=>by
 obtain⟨a,c,e1⟩:=(h e he).1.form;exact⟨a,_,c,e1⟩
theorem xo (g o cap:Nat) (es:List Ent) (x:Nat) (s:ByteArray) (w:World) (hE:mI w g o es) (hs:Slc es) (hx:w.cell? ⟨x,0,none⟩=some (.string s)) (hm:es.length≤64):Calls prog 239 #[.slice (some ⟨g,o,none⟩) es.length cap,.func (.func 240) #[] #[.pointer (some ⟨x,0,none⟩)]] w fun e w'=>e=.returned (.int .i64 (pos (bL es) s))∧w.grownBy w' none:=by
 have HE:QH (mI w g o es):=hE;have HS:QH (Slc es):=hs;have HX:QH (w.cell? ⟨x,0,none⟩=some (.string s)):=hx;have hm':bl es.length:=by unfold bl;omega
 clear hE hs hx hm;go_enter func239,ntmps239;go_wp2_with fail;go_loopw [8] (fun i wr=>∃ k:Nat,k≤es.length∧i=.int .i64 k∧ir es s k∧w.grownBy wr none) (fun i _=>es.length - (intOf i).toNat)
 case atStart=>exact⟨0,Q0 _,rfl,fun j e hj=>by omega,aw _ _⟩
 case round =>
  obtain⟨k,hk,rfl,R,G⟩:=hrel;have HG:QH (w.grownBy wr none):=G;have HR:QH (ir es s k):=R;clear G R
  rcases (show k=es.length∨k<es.length from by omega) with hke | hlt
  ·have HP:QH (pos (bL es) s=-1):=nZ (hke ▸ HR.o);clear HR;subst hke;go_wp2;go_ret;exact⟨aO HP.o.symm,HG.o⟩
  ·have hlt':(k:Int)<(es.length:Int):=(by omega);have hk0:(0:Int)≤(k:Int):=(by omega);have hw:=hm'.wrap hlt;obtain⟨e,he⟩:∃ e,es[k]?=some e:=⟨_,Qg hlt⟩
   obtain⟨a,n,c,hv⟩:=HS.o e (Qm he);have D:=(HE.o k e he).keep HG.o;rw[hv] at D;obtain⟨d0,d1,d2,d3,d4,d5,d6,d7,d8⟩:=D;have HK:QH (wr.cell? ⟨x,0,none⟩=some (.string s)):=HG.o.cell HX.o (by simp);by_cases hq:e.h.nm=s
   ·have HP:QH (pos (bL es) s=k):=qc HR.o he hq;have hd:decide (e.h.nm=s)=true:=Qy hq;clear HR he hq hv;go_wp2_with (first | (go_at_call 240;refine(pD e.h (.slice a n c) x s _ HK.o ⟨a,n,c,rfl⟩).mono ?_;rintro e1 w1 ⟨rfl,g1⟩;rw[hd]) | fail)
    go_ret;exact⟨aO HP.o.symm,aa HG.o g1⟩
   ·have HN:QH (ir es s (k+1)):=mg HR.o he hq;have hd:decide (e.h.nm=s)=false:=Qx hq;clear HR he hq hv;go_wp2_with (first | (go_at_call 240;refine(pD e.h (.slice a n c) x s _ HK.o ⟨a,n,c,rfl⟩).mono ?_;rintro e1 w1 ⟨rfl,g1⟩;rw[hd]) | fail)
    go_roundw
    case rel=>exact⟨k+1,hlt,by first | rfl | (rw[hw];rfl),HN.o,aa HG.o g1⟩
    case measure=>first | exact aD hlt | (rw[hw];exact aD hlt)
theorem qC (b:Nat) (es:List Ent) (p:Pl) (s:ByteArray) (w:World) (hB:ee w b es p) (hs:Slc es):Calls prog 177 #[.pointer (some ⟨b,0,none⟩),.string s] w fun e w'=>e=.returned (.int .i64 (pos (bL es) s))∧w.grownBy w' none:=by
 have hmf:∀ fn bound caps ww,(Instr.makeFunc fn bound caps).run prog ww=.ok (.func fn bound caps) ww:=fun _ _ _ _=>rfl;have HB:QH (ee (w.alloc (.cells #[.string s] 9)) b es p):=hB.keep QG;have HX:QH ((w.alloc (.cells #[.string s] 9)).cell? ⟨w.heap.size,0,none⟩=some (.string s)):=ae (aj w #[.string s] 9) 0;clear hB;go_enter func177,ntmps177;go_wp2_with (first | (go_at_call 126;refine(l0 b es.length HB.o.len p _ HB.o.flags).mono ?_;rintro e w1 ⟨rfl,g1,_⟩) | (go_at_call 239;refine(xo b 0 64 es _ s _ (HB.o.row.keep g1) hs (g1.cell HX.o (by simp)) HB.o.len).mono ?_;rintro e w2 ⟨rfl,g2⟩) | fail)
 go_ret;exact⟨rfl,aa (aa QG g1) g2⟩
theorem rV (b:Nat) (es:List Ent) (p:Pl) (s:ByteArray) (w:World) (hB:ee w b es p) (hs:Slc es):Calls prog 112 #[.pointer (some ⟨b,0,none⟩),.string s] w fun e w'=>e=.returned (.bool (decide (0≤pos (bL es) s)))∧w.grownBy w' none:=by
 go_enter func112,ntmps112;go_wp2_with (first | (go_at_call 177;refine(qC b es p s _ hB hs).mono ?_;rintro e w1 ⟨rfl,g1⟩) | fail)
 go_ret;exact⟨rfl,g1⟩
open Go.Shelf
def lays316_ren:Go.Shelf.Ren:=⟨fun | 316=>188 | n=>n,fun | 9=>9 | 3=>3 | 4=>4 | 37=>314 | 0=>0 | 127=>315 | 5=>5 | n=>n,fun | n=>n⟩
theorem lays316:Go.Proofs.LaysM.n316 prog lays316_ren:={
 mixed:=by kernel_rfl
 f316:=func188.trans (congrArg some (by kernel_rfl))
 t0:=underlying0
 a0:=isAgg0
 z0:=sizeOf0
 v0:=zeroValue0
 t3:=underlying3
 a3:=isAgg3
 z3:=sizeOf3
 v3:=zeroValue3
 t4:=underlying4
 a4:=isAgg4
 z4:=sizeOf4
 v4:=zeroValue4
 t9:=underlying9
 a9:=isAgg9
 z9:=sizeOf9
 v9:=zeroValue9
 t37:=underlying314
 a37:=isAgg314
 z37:=sizeOf314
 v37:=zeroValue314
 t127:=underlying315
 a127:=isAgg315
 z127:=sizeOf315
 v127:=zeroValue315
 t5:=underlying5
 a5:=isAgg5
 z5:=sizeOf5
 v5:=zeroValue5
 i0:=by kernel_rfl
 i3:=by kernel_rfl
 i4:=by kernel_rfl
 i5:=by kernel_rfl
 i9:=by kernel_rfl
 i37:=by kernel_rfl
 i127:=by kernel_rfl }
theorem tO (h:Below w.heap.size w w'):w.grownBy w' none:=⟨h.os,h.tape,h.output,h.size,fun k hk _=>h.block k hk⟩
theorem lg (s:ByteArray) (hs:s.size≤281474976710656) (w:World):Calls prog 124 #[.string s] w fun e w'=>e=.returned (.string s)∧w.grownBy w' none:=by
 have c:=Any.stringslite_Clone lays316 s w hs;change Calls prog 188 _ _ _ at c;go_enter func124,ntmps124;go_wp2_with (go_at_call 188;refine c.mono ?_;rintro e w1 ⟨rfl,h⟩)
 go_ret;exact⟨rfl,tO h⟩
end Go.Proofs.YtjmepebbcnhalaaGreat
namespace Go.Proofs.YtjmepebbcnhalaaGreat
open Tryz
open Go.RowKit
variable {w w':World} {b g o k:Nat} {junk:List Value} {v:Value} {ok:Nat→Prop} {ps:List Pt}
def fF (n:Int):Bool:=decide (-9≤n) && decide (n≤9)
theorem nW (n:Int) (w:World):Calls prog 121 #[.int .i64 n] w fun e w'=>e=.returned (.bool (fF n))∧w'=w:=by
 by_cases h:-9≤n
 ·have e:fF n=decide (n≤9):=by simp[fF,h]
  rw[e];go_enter func121,ntmps121;go_wp2;go_ret;exact⟨rfl,rfl⟩
 ·have e:fF n=false:=by simp[fF,h]
  rw[e];go_enter func121,ntmps121;go_wp2;go_ret;exact⟨rfl,rfl⟩
def Cx (l:List ByteArray) (s:ByteArray) (k:Nat):Prop:=∀ (j:Nat) x,j<k→l[j]?=some x→¬x=s
theorem AG {l:List ByteArray} {s x:ByteArray} (h:Cx l s k) (he:l[k]?=some x) (hs:¬x=s):Cx l s (k+1):=fun j y hj hy=>by
 rcases (show j<k∨j=k by omega) with hj | rfl
 ·exact h j y hj hy
 ·rw[he] at hy;cases hy;exact hs
theorem bi {a b c:World} {r:Option Nat} (h:a.grownBy b none) (k:b.grownBy c r):a.grownBy c r:=⟨k.os.trans h.os,k.tape.trans h.tape,k.output.trans h.output,Ql h.size k.size,fun i hi hr=>(k.block i (Qal hi h.size) hr).trans (h.block i hi (by simp))⟩
theorem AC {x:ByteArray} (h:¬x=⟨#[]⟩):(x.toList == [])=false:=by
 cases hb:(x.toList == []) with
 | false=>rfl
 | true=>exact absurd (iG (by rw[eq_of_beq hb];kernel_rfl)) h
theorem getD_some {α:Type} {l:List α} {d:α} (h:k<l.length):l[k]?=some (l.getD k d):=by simp[List.getD,h]
set_option maxRecDepth 100000
set_option maxHeartbeats 4000000
def MAt (w:World) (g o:Nat) (ms:List Mk):Prop:=∀ (j:Nat) m,ms[j]?=some m→M4 w g (o+j*4) m
theorem MAt.keep {ms:List Mk} (h:MAt w g o ms) (k:w.grownBy w' none):MAt w' g o ms:=fun j m hm=>(h j m hm).keep k
theorem BkJ.marks {es:List Ent} {p:Pl} (h:BkJ w b es junk p):MAt w b 588 p.mks:=fun _ _ hm=>h.mark hm
def dM (ms:List Mk):List ByteArray:=ms.map fun m=>m.nm
theorem lx {ms:List Mk} {m:Mk} (h:ms[k]?=some m):(dM ms)[k]?=some m.nm:=by simp[dM,h]
theorem qO (m:Mk) (x:Nat) (s:ByteArray) (w:World) (hx:w.cell? ⟨x,0,none⟩=some (.string s)):Calls prog 187 #[mv m,.pointer (some ⟨x,0,none⟩)] w fun e w'=>e=.returned (.bool (decide (m.nm=s)))∧w.grownBy w' none:=by
 obtain⟨mi,nm,po,he⟩:=m;unfold mv;simp only;have hx':(w.alloc (.cells #[.int .u8 mi,.string nm,.int .i64 po,.int .i64 he] 115)).cell? ⟨x,0,none⟩=some (.string s):=QG.cell hx (by simp);by_cases e:nm=s
 ·have k:=iI e;rw[Qy e];clear e hx;go_enter func187,ntmps187;go_wp2;go_ret;exact⟨rfl,QG⟩
 ·have k:=jg e;rw[Qx e];clear e hx;go_enter func187,ntmps187;go_wp2;go_ret;exact⟨rfl,QG⟩
theorem xg (g o cap:Nat) (ms:List Mk) (x:Nat) (s:ByteArray) (w:World) (hE:MAt w g o ms) (hx:w.cell? ⟨x,0,none⟩=some (.string s)) (hm:ms.length≤64):Calls prog 250 #[.slice (some ⟨g,o,none⟩) ms.length cap,.func (.func 187) #[] #[.pointer (some ⟨x,0,none⟩)]] w fun e w'=>e=.returned (.int .i64 (pos (dM ms) s))∧w.grownBy w' none:=by
 have HE:QH (MAt w g o ms):=hE;have HX:QH (w.cell? ⟨x,0,none⟩=some (.string s)):=hx;have hm':bl ms.length:=by unfold bl;omega
 clear hE hx hm;go_enter func250,ntmps250;go_wp2_with fail;go_loopw [8] (fun i wr=>∃ k:Nat,k≤ms.length∧i=.int .i64 k∧Cx (dM ms) s k∧w.grownBy wr none) (fun i _=>ms.length - (intOf i).toNat)
 case atStart=>exact⟨0,Q0 _,rfl,fun j e hj=>by omega,aw _ _⟩
 case round =>
  obtain⟨k,hk,rfl,R,G⟩:=hrel;have HG:QH (w.grownBy wr none):=G;have HR:QH (Cx (dM ms) s k):=R;clear G R
  rcases (show k=ms.length∨k<ms.length from by omega) with hke | hlt
  ·have HP:QH (pos (dM ms) s=-1):=pi _ _ fun j x hx=>HR.o j x (hke ▸ (by have:=(Qh hx).1;simpa [dM] using this)) hx;clear HR;subst hke;go_wp2;go_ret;exact⟨aO HP.o.symm,HG.o⟩
  ·have hlt':(k:Int)<(ms.length:Int):=(by omega);have hk0:(0:Int)≤(k:Int):=(by omega);have hw:=hm'.wrap hlt;obtain⟨m,hq0⟩:∃ m,ms[k]?=some m:=⟨_,Qg hlt⟩
   obtain⟨d0,d1,d2,d3⟩:=(HE.o k m hq0).keep HG.o;have HK:QH (wr.cell? ⟨x,0,none⟩=some (.string s)):=HG.o.cell HX.o (by simp);by_cases hq:m.nm=s
   ·have HP:QH (pos (dM ms) s=k):=(by subst hq;exact rM _ _ _ (lx hq0) HR.o);have hd:decide (m.nm=s)=true:=Qy hq;clear HR hq0 hq;go_wp2_with (first | (go_at_call 187;refine(qO m x s _ HK.o).mono ?_;rintro e1 w1 ⟨rfl,g1⟩;rw[hd]) | fail)
    go_ret;exact⟨aO HP.o.symm,aa HG.o g1⟩
   ·have HN:QH (Cx (dM ms) s (k+1)):=AG HR.o (lx hq0) hq;have hd:decide (m.nm=s)=false:=Qx hq;clear HR hq0 hq;go_wp2_with (first | (go_at_call 187;refine(qO m x s _ HK.o).mono ?_;rintro e1 w1 ⟨rfl,g1⟩;rw[hd]) | fail)
    go_roundw
    case rel=>exact⟨k+1,hlt,by first | rfl | (rw[hw];rfl),HN.o,aa HG.o g1⟩
    case measure=>first | exact aD hlt | (rw[hw];exact aD hlt)
theorem qi (g o cap:Nat) (ms:List Mk) (x:Nat) (s:ByteArray) (w:World) (hE:MAt w g o ms) (hx:w.cell? ⟨x,0,none⟩=some (.string s)) (hm:ms.length≤64):Calls prog 186 #[.slice (some ⟨g,o,none⟩) ms.length cap,.func (.func 187) #[] #[.pointer (some ⟨x,0,none⟩)]] w fun e w'=>e=.returned (.bool (decide (0≤pos (dM ms) s)))∧w.grownBy w' none:=by
 go_enter func186,ntmps186;go_wp2_with (first | (go_at_call 250;refine(xg g o cap ms x s _ hE hx hm).mono ?_;rintro e w1 ⟨rfl,g1⟩) | fail)
 go_ret;exact⟨rfl,g1⟩
theorem tH (b:Nat) (es:List Ent) (p:Pl) (s:ByteArray) (w:World) (hB:ee w b es p):Calls prog 123 #[.pointer (some ⟨b,0,none⟩),.string s] w fun e w'=>e=.returned (.bool (decide (0≤pos (dM p.mks) s)))∧w.grownBy w' none:=by
 have hmf:∀ fn bound caps ww,(Instr.makeFunc fn bound caps).run prog ww=.ok (.func fn bound caps) ww:=fun _ _ _ _=>rfl;obtain⟨junk,J⟩:=hB;have J1:=J.keep (Qa0 w (.cells #[.string s] 9) none);have HC:=qi b 588 5 p.mks w.heap.size s _ J1.marks (ae (aj w #[.string s] 9) 0) (by rw[J.five];decide);rw[J.five] at HC;clear J J1;go_enter func123,ntmps123;go_wp2_with (first | (go_at_call 186;refine HC.mono ?_;rintro e w2 ⟨rfl,g2⟩) | fail)
 go_ret;exact⟨rfl,aa QG g2⟩
theorem kr:∀ (ms:List Mk) (n:Nat) (m:Mk),n<ms.length→((((gg ms).set (n*4) (.int .u8 m.mi)).set (n*4+1) (.string m.nm)).set (n*4+2) (.int .i64 m.po)).set (n*4+3) (.int .i64 m.he)=gg (ms.set n m)
 | [],n,m,h=>by simp at h
 | q :: r,0,m,h=>by simp[gg,mvs]
 | q :: r,n+1,m,h=>by
  have ih:=kr r n m (by simpa using h);rw[show (n+1)*4=n*4+1+1+1+1 by omega,show n*4+1+1+1+1+1=n*4+1+1+1+1+1 by rfl,show n*4+1+1+1+1+2=n*4+2+1+1+1+1 by omega,show n*4+1+1+1+1+3=n*4+3+1+1+1+1 by omega];simp only[gg,mvs,List.cons_append,List.nil_append,List.set_cons_succ];rw[ih]
theorem BkJ.setTail {es:List Ent} {p:Pl} {cs:List Value} (f1:es.length*9+junk.length=576) (f2:p.nms.length=9) (h:w.heap[b]?=some (.cells (aH es++(junk++(.bool true :: .bool p.shut :: .int .i64 (es.length:Int) :: (p.nms.map Value.string++cs)))).toArray 196 (0,0))) (i:Nat) (x:Value):(w.setCell ⟨b,588+i,none⟩ x).heap[b]?=some (.cells (aH es++(junk++(.bool true :: .bool p.shut :: .int .i64 (es.length:Int) :: (p.nms.map Value.string++cs.set i x)))).toArray 196 (0,0)):=by
 rw[au h]
 congr 2
 rw[Qa6]
 congr 1
 rw[Qb6 _ _ (by rw[aP];omega),Qb6 _ _ (by rw[aP];omega),aP];rw[show 588+i - es.length*9 - junk.length=9+i+1+1+1 by omega];simp only[List.set_cons_succ];rw[Qb6 _ _ (by simp[f2]),Qa9,f2,show 9+i - 9=i by omega]
theorem io (w:World) (r:Option Nat):w.grownBy w.drew r:=⟨rfl,rfl,rfl,Qj _,fun _ _ _=>rfl⟩
def st4 (w:World) (b o:Nat) (m:Mk):World:=(((w.setCell ⟨b,o,none⟩ (.int .u8 m.mi)).setCell ⟨b,o+1,none⟩ (.string m.nm)).setCell ⟨b,o+2,none⟩ (.int .i64 m.po)).setCell ⟨b,o+3,none⟩ (.int .i64 m.he)
theorem rh (w:World) (b o:Nat) (m:Mk):w.grownBy (st4 w b o m) (some b):=(((al _ b _ _).trans (al _ b _ _)).trans (al _ b _ _)).trans (al _ b _ _)
theorem BkJ.setM {es:List Ent} {p:Pl} (h:BkJ w b es junk p) {n:Nat} (hn:n<5) (m:Mk):BkJ (st4 w b (588+n*4) m) b es junk { p with mks:=p.mks.set n m }:=by
 refine⟨?_,h.fit,h.nine,by simpa using h.five⟩;have e:=BkJ.setTail h.fit h.nine (BkJ.setTail h.fit h.nine (BkJ.setTail h.fit h.nine (BkJ.setTail h.fit h.nine (cs:=gg p.mks) h.lies (n*4) (.int .u8 m.mi)) (n*4+1) (.string m.nm)) (n*4+2) (.int .i64 m.po)) (n*4+3) (.int .i64 m.he);rw[kr _ _ _ (by rw[h.five];exact hn)] at e;exact e
def moM (p:Pl) (t:Int):Mk:=if t<5 then p.mks.getD t.toNat Mk.none else Mk.none
def moB (p:Pl) (t:Int):Bool:=!decide ((moM p t).nm=⟨#[]⟩)
def maE (p:Pl) (m:Mk):Int:=if p.shut=true then 7 else if m.mi<1∨4<m.mi∨fF m.po=false∨fF m.he=false then 2 else if aS m.nm.data.toList=false then 4 else if ¬(p.mks.getD m.mi.toNat Mk.none).nm=⟨#[]⟩∨0≤pos (dM p.mks) m.nm then 5 else 0
def maP (p:Pl) (m:Mk):Pl:=if maE p m=0 then { p with mks:=p.mks.set m.mi.toNat m } else p
theorem BH (b:Nat) (es:List Ent) (p:Pl) (m:Mk) (w:World) (hB:ee w b es p):Calls prog 53 #[.pointer (some ⟨b,0,none⟩),mv m] w fun e w'=>e=.returned (.int .i64 (maE p m))∧ee w' b es (maP p m)∧w.grownBy w' (some b):=by
 obtain⟨junk,J⟩:=hB;obtain⟨mi,nm,po,he⟩:=m;obtain⟨W1,hW1⟩:=Qe (w.alloc (.cells #[.int .u8 mi,.string nm,.int .i64 po,.int .i64 he] 115));have HG1:QH (w.grownBy W1 none):=by rw[hW1];exact QG
 have A:W1.heap[w.heap.size]?=some (.cells #[.int .u8 mi,.string nm,.int .i64 po,.int .i64 he] 115 (0,0)):=by rw[hW1];exact aj w _ _
 have HA:QH (W1.heap[w.heap.size]?=some (.cells #[.int .u8 mi,.string nm,.int .i64 po,.int .i64 he] 115 (0,0))):=A;have hbs:b<w.heap.size:=aY J.lies;have J1:=J.keep HG1.o;have HJ:QH (BkJ W1 b es junk p):=J1;have HR:=js b es.length p W1 J1.flags;have HI:=wD nm;have K1:=nW po;have K2:=nW he;have a0:=ae A 0;have a1:=ae A 1;have a2:=ae A 2;have a3:=ae A 3;have af:=fun i=>aq A i;have HE:QH (w.grownBy W1 (some b)):=bi HG1.o (aw _ _);clear A J;unfold mv;cases hs:p.shut with
 | true =>
  have e1:maE p ⟨mi,nm,po,he⟩=7:=if_pos hs;have e2:maP p ⟨mi,nm,po,he⟩=p:=if_neg (by rw[e1];decide);rw[e1,e2];rw[hs] at HR;clear e1 e2 J1;go_enter func53,ntmps53;go_upto_region 1 with fail;rw[←hW1];clear hW1;go_wp2_with (first | (go_at_call 110;refine HR.mono ?_;rintro e w1 ⟨rfl,h1⟩;obtain rfl:W1=w1:=h1.symm) | fail)
  go_ret;exact⟨rfl,⟨junk,HJ.o⟩,HE.o⟩
 | false =>
  rw[hs] at HR;by_cases ht:mi<1∨4<mi∨fF po=false∨fF he=false
  ·have e1:maE p ⟨mi,nm,po,he⟩=2:=(by unfold maE;rw[if_neg (by simp[hs]),if_pos ht]);have e2:maP p ⟨mi,nm,po,he⟩=p:=if_neg (by rw[e1];decide);rw[e1,e2];clear e1 e2 J1
   rcases (show mi<1∨(1≤mi∧4<mi)∨(1≤mi∧mi≤4∧fF po=false)∨(1≤mi∧mi≤4∧fF po=true∧fF he=false) by
    by_cases q1:mi<1
    ·exact Or.inl q1
    ·by_cases q2:4<mi
     ·exact Or.inr (Or.inl ⟨by omega,q2⟩)
     ·cases q3:fF po with
      | false=>exact Or.inr (Or.inr (Or.inl ⟨by omega,by omega,rfl⟩))
      | true =>
       cases q4:fF he with
       | false=>exact Or.inr (Or.inr (Or.inr ⟨by omega,by omega,rfl,rfl⟩))
       | true=>rw[q3,q4] at ht;simp at ht;omega) with h | ⟨h,h'⟩ | ⟨h,h',k⟩ | ⟨h,h',k,k'⟩
   all_goals
    clear ht;go_enter func53,ntmps53;go_upto_region 1 with fail;rw[←hW1];clear hW1;go_wp2_with (first | (go_at_call 110;refine HR.mono ?_;rintro e w1 ⟨rfl,h1⟩;obtain rfl:W1=w1:=h1.symm) | (go_at_call 121;first | (refine(K1 _).mono ?_;rintro e w1 ⟨rfl,h1⟩;obtain rfl:W1=w1:=h1.symm;rw[k];clear K1) | (refine(K2 _).mono ?_;rintro e w1 ⟨rfl,h1⟩;obtain rfl:W1=w1:=h1.symm;rw[k'])) | fail)
    go_ret;exact⟨rfl,⟨junk,HJ.o⟩,HE.o⟩
  ·have t1:1≤mi:=(by omega);have t4:mi≤4:=by omega
   have k:fF po=true:=by cases h:fF po with
    | true=>rfl
    | false=>exact absurd (Or.inr (Or.inr (Or.inl h))) ht
   have k':fF he=true:=by cases h:fF he with
    | true=>rfl
    | false=>exact absurd (Or.inr (Or.inr (Or.inr h))) ht
   cases hn:aS nm.data.toList with
   | false =>
    have e1:maE p ⟨mi,nm,po,he⟩=4:=(by unfold maE;rw[if_neg (by simp[hs]),if_neg ht,if_pos hn]);have e2:maP p ⟨mi,nm,po,he⟩=p:=if_neg (by rw[e1];decide);rw[e1,e2];clear e1 e2 J1 ht;go_enter func53,ntmps53;go_upto_region 1 with fail;rw[←hW1];clear hW1;go_wp2_with (first | (go_at_call 110;refine HR.mono ?_;rintro e w1 ⟨rfl,h1⟩;obtain rfl:W1=w1:=h1.symm) | (go_at_call 121;first | (refine(K1 _).mono ?_;rintro e w1 ⟨rfl,h1⟩;obtain rfl:W1=w1:=h1.symm;rw[k];clear K1) | (refine(K2 _).mono ?_;rintro e w1 ⟨rfl,h1⟩;obtain rfl:W1=w1:=h1.symm;rw[k'])) | (go_at_call 122;refine(HI _).mono ?_;rintro e w1 ⟨rfl,h1⟩;obtain rfl:W1=w1:=h1.symm;rw[hn]) | fail)
    go_ret;exact⟨rfl,⟨junk,HJ.o⟩,HE.o⟩
   | true =>
    have hsz:nm.size≤281474976710656:=(by rw[Lib.size_eq];exact Ql (iW hn).2 (by omega));obtain⟨n,rfl⟩:=Qbr (show 0≤mi by omega);have n5:n<5:=(by omega);obtain⟨_,c,_,_⟩:=J1.mark (t:=n) (getD_some (d:=Mk.none) (by rw[J1.five];exact n5));have H4:maE p ⟨(n:Int),nm,po,he⟩=if ¬(p.mks.getD n Mk.none).nm=⟨#[]⟩∨0≤pos (dM p.mks) nm then 5 else 0:=(by unfold maE;rw[if_neg (by simp[hs]),if_neg ht,if_neg (by simp[hn])];rfl);have t5':(n:Int)<5:=(by omega);have t0':(0:Int)≤(n:Int):=(by omega);have HM:=tH b es p nm;obtain⟨x,hx⟩:∃ x,(p.mks.getD n Mk.none).nm=x:=⟨_,rfl⟩
    rw[hx] at c H4;clear ht J1;by_cases hx0:x=⟨#[]⟩
    ·have he':(x.toList == [])=true:=(by rw[hx0];kernel_rfl);have he2:(x.toList != [])=false:=(by simp[bne,he']);by_cases hq:0≤pos (dM p.mks) nm
     ·have e1:maE p ⟨(n:Int),nm,po,he⟩=5:=(by rw[H4,if_pos (Or.inr hq)]);have e2:maP p ⟨(n:Int),nm,po,he⟩=p:=if_neg (by rw[e1];decide);rw[e1,e2];rw[Qy hq] at HM;clear e1 e2 H4 hx hx0 hq;go_enter func53,ntmps53;go_upto_region 1 with fail;rw[←hW1];clear hW1;go_upto_region 8 with (first | (go_at_call 110;refine HR.mono ?_;rintro e w1 ⟨rfl,h1⟩;obtain rfl:W1=w1:=h1.symm) | (go_at_call 121;first | (refine(K1 _).mono ?_;rintro e w1 ⟨rfl,h1⟩;obtain rfl:W1=w1:=h1.symm;rw[k];clear K1) | (refine(K2 _).mono ?_;rintro e w1 ⟨rfl,h1⟩;obtain rfl:W1=w1:=h1.symm;rw[k'])) | (go_at_call 122;refine(HI _).mono ?_;rintro e w1 ⟨rfl,h1⟩;obtain rfl:W1=w1:=h1.symm;rw[hn]) | fail)
      go_region_with (first | (go_at_call 123;refine(HM _ (by first | exact⟨junk,HJ.o⟩ | exact⟨junk,HJ.o.keep (aA _ 1 none)⟩)).mono ?_;rintro e w2 ⟨rfl,g2⟩) | fail)
      all_goals go_wp2
      all_goals go_ret
      all_goals exact⟨rfl,⟨junk,HJ.o.keep (aa (aA _ 1 none) g2)⟩,bi (aa HG1.o (aa (aA _ 1 none) g2)) (aw _ _)⟩
     ·have e1:maE p ⟨(n:Int),nm,po,he⟩=0:=(by rw[H4,if_neg (by simp[hx0];omega)]);have e2:maP p ⟨(n:Int),nm,po,he⟩={ p with mks:=p.mks.set n ⟨(n:Int),nm,po,he⟩ }:=if_pos e1;rw[e1,e2];rw[Qx hq] at HM;clear e1 e2 H4 hx hx0 hq;go_enter func53,ntmps53;go_upto_region 1 with fail;rw[←hW1];clear hW1;go_upto_region 8 with (first | (go_at_call 110;refine HR.mono ?_;rintro e w1 ⟨rfl,h1⟩;obtain rfl:W1=w1:=h1.symm) | (go_at_call 121;first | (refine(K1 _).mono ?_;rintro e w1 ⟨rfl,h1⟩;obtain rfl:W1=w1:=h1.symm;rw[k];clear K1) | (refine(K2 _).mono ?_;rintro e w1 ⟨rfl,h1⟩;obtain rfl:W1=w1:=h1.symm;rw[k'])) | (go_at_call 122;refine(HI _).mono ?_;rintro e w1 ⟨rfl,h1⟩;obtain rfl:W1=w1:=h1.symm;rw[hn]) | fail)
      go_region_with (first | (go_at_call 123;refine(HM _ (by first | exact⟨junk,HJ.o⟩ | exact⟨junk,HJ.o.keep (aA _ 1 none)⟩)).mono ?_;rintro e w2 ⟨rfl,g2⟩) | fail)
      all_goals
       have HG2:QH (W1.grownBy w2 none):=aa (aA _ 1 none) g2;have A2:=ag HG2.o HA.o (by simp);have z1:=ae A2 1;have zf:=fun i=>aq A2 i;have HA2:QH (w2.heap[w.heap.size]?=some (.cells #[.int .u8 (n:Int),.string nm,.int .i64 po,.int .i64 he] 115 (0,0))):=A2;clear A2 a0 a1 a2 a3 af c;go_upto_region 11 with (first | (go_at_call 124;refine(lg nm hsz _).mono ?_;rintro e w3 ⟨rfl,g3⟩;have A3:=ag g3 HA2.o (by simp);have y1:=ae A3 1;have yf:=fun i=>aq A3 i;have HA3:QH (w3.heap[w.heap.size]?=some (.cells #[.int .u8 (n:Int),.string nm,.int .i64 po,.int .i64 he] 115 (0,0))):=A3;have HG3:QH (W1.grownBy w3 none):=aa HG2.o g3;clear A3 z1 zf) | fail)
       obtain⟨W4,hW4⟩:=Qe (w3.setCell ⟨w.heap.size,1,none⟩ (.string nm));have A4:W4.heap[w.heap.size]?=some (.cells #[.int .u8 (n:Int),.string nm,.int .i64 po,.int .i64 he] 115 (0,0)):=(by rw[hW4];exact au HA3.o 1 (.string nm));have J4:BkJ W4 b es junk p:=(by rw[hW4];exact(HJ.o.keep HG3.o).keepR (al _ _ _ _) (by simp;omega));have HG4:QH (w.grownBy W4 none):=(by rw[hW4];exact ak (aa HG1.o HG3.o) (al _ _ _ _) (fun x e=>by cases e;exact Qj _));rw[←hW4];clear hW4 y1 yf;have v0:=ae A4 0;have v1:=ae A4 1;have v2:=ae A4 2;have v3:=ae A4 3;obtain⟨d0,d1,d2,d3⟩:=J4.mark (t:=n) (getD_some (d:=Mk.none) (by rw[J4.five];exact n5));have df:=fun i=>J4.free i;have HJ4:QH (BkJ W4 b es junk p):=J4;clear J4 A4;go_region;go_wp2;go_ret;have F1:=(HJ4.o.setM n5 ⟨(n:Int),nm,po,he⟩).keep (ai _);have F2:=bi HG4.o ((rh W4 b (588+n*4) ⟨(n:Int),nm,po,he⟩).trans (io _ _));unfold st4 at F1 F2;exact⟨rfl,⟨junk,F1⟩,F2⟩
    ·have he':=AC hx0;have he2:(x.toList != [])=true:=(by simp[bne,he']);have e1:maE p ⟨(n:Int),nm,po,he⟩=5:=(by rw[H4,if_pos (Or.inl hx0)]);have e2:maP p ⟨(n:Int),nm,po,he⟩=p:=if_neg (by rw[e1];decide);rw[e1,e2];clear e1 e2 H4 hx hx0;go_enter func53,ntmps53;go_upto_region 1 with fail;rw[←hW1];clear hW1;go_upto_region 8 with (first | (go_at_call 110;refine HR.mono ?_;rintro e w1 ⟨rfl,h1⟩;obtain rfl:W1=w1:=h1.symm) | (go_at_call 121;first | (refine(K1 _).mono ?_;rintro e w1 ⟨rfl,h1⟩;obtain rfl:W1=w1:=h1.symm;rw[k];clear K1) | (refine(K2 _).mono ?_;rintro e w1 ⟨rfl,h1⟩;obtain rfl:W1=w1:=h1.symm;rw[k'])) | (go_at_call 122;refine(HI _).mono ?_;rintro e w1 ⟨rfl,h1⟩;obtain rfl:W1=w1:=h1.symm;rw[hn]) | fail)
     go_quiet (fail);go_wp2;go_ret;exact⟨rfl,⟨junk,HJ.o.keep (aA _ _ none)⟩,bi HG1.o (aA _ _ _)⟩
