import Derived.Test.YtjmepebbcnhalaaGreatW4
import Derived.Deep.CutRange
import Derived.Deep.CutBlock
import Derived.Maps.RangeWalk
import Derived.Ground.MpProg
import Derived.Shelf.Strconv.Clone
import Derived.Test.YtjmepebbcnhalaaGreatW0
namespace Go.Proofs.YtjmepebbcnhalaaGreat
open Go.RowKit
structure Mk where
 mi:Int
 nm:ByteArray
 po:Int
 he:Int
def Mk.none:Mk:=⟨0,⟨#[]⟩,0,0⟩
def mvs (m:Mk):List Value:=[.int .u8 m.mi,.string m.nm,.int .i64 m.po,.int .i64 m.he]
def mv (m:Mk):Value:=.agg #[.int .u8 m.mi,.string m.nm,.int .i64 m.po,.int .i64 m.he]
def fu:List Mk→List Value
 | []=>[]
 | m :: r=>mvs m++fu r
theorem kR:∀ (ms:List Mk) (j:Nat) (m:Mk),ms[j]?=some m→∀ k,k<4→(fu ms)[j*4+k]?=(mvs m)[k]?
 | [],j,m,h,k,_=>by simp at h
 | q :: r,0,m,h,k,hk=>by
  obtain rfl:q=m:=by simpa using h
  simp only[fu,Nat.zero_mul,Nat.zero_add]
  exact List.getElem?_append_left (by simpa [mvs] using hk)
 | q :: r,j+1,m,h,k,hk=>by
  have ih:=kR r j m (by simpa using h) k hk
  simp only[fu]
  rw[List.getElem?_append_right (by simp[mvs];omega),←ih]
  congr 1
  simp[mvs]
  omega
structure Ent where
 h:Hd
 v:Value
 ps:List Pt
def Ent.cd (e:Ent):Cd:=e.h.with e.ps
def cvs (h:Hd) (v:Value):List Value:=[.string h.nm,.int .u8 h.su,.int .u8 h.kd,.int .i64 h.co,.int .i64 h.po,.int .i64 h.he,.int .u16 h.tr,.bool h.tk,v]
def aG:List Ent→List Value
 | []=>[]
 | e :: r=>cvs e.h e.v++aG r
theorem aO:∀ es:List Ent,(aG es).length=es.length*9
 | []=>rfl
 | e :: r=>by simp only[aG,List.length_append,aO r,List.length_cons];simp only[cvs,List.length_cons,List.length_nil];omega
theorem fJ:∀ a b:List Ent,aG (a++b)=aG a++aG b
 | [],b=>rfl
 | e :: r,b=>by simp only[List.cons_append,aG,fJ r b,List.append_assoc]
theorem kE:∀ (es:List Ent) (j:Nat) (e:Ent),es[j]?=some e→∀ k,k<9→(aG es)[j*9+k]?=(cvs e.h e.v)[k]?
 | [],j,e,h,k,_=>by simp at h
 | q :: r,0,e,h,k,hk=>by
  obtain rfl:q=e:=by simpa using h
  simp only[aG,Nat.zero_mul,Nat.zero_add]
  exact List.getElem?_append_left (by simpa [cvs] using hk)
 | q :: r,j+1,e,h,k,hk=>by
  have ih:=kE r j e (by simpa using h) k hk
  simp only[aG]
  rw[List.getElem?_append_right (by simp[cvs];omega),←ih]
  congr 1
  simp[cvs]
  omega
structure Pl where
 shut:Bool
 nms:List ByteArray
 mks:List Mk
def plc (n:Nat) (p:Pl):List Value:=.bool true :: .bool p.shut :: .int .i64 (n:Int) :: (p.nms.map Value.string++fu p.mks)
def jq (es:List Ent) (junk:List Value) (p:Pl):List Value:=aG es++(junk++plc es.length p)
structure BkJ (w:World) (b:Nat) (es:List Ent) (junk:List Value) (p:Pl):Prop where
 lies:w.heap[b]?=some (.cells (jq es junk p).toArray 196 (0,0))
 fit:es.length*9+junk.length=576
 nine:p.nms.length=9
 five:p.mks.length=5
def dH (w:World) (b:Nat) (es:List Ent) (p:Pl):Prop:=∃ junk,BkJ w b es junk p
theorem BkJ.cell {w:World} {b:Nat} {es:List Ent} {junk:List Value} {p:Pl} (h:BkJ w b es junk p) (i:Nat):w.cell? ⟨b,i,none⟩=(jq es junk p)[i]?:=by
 rw[ae h.lies i];simp
theorem BkJ.tail {w:World} {b:Nat} {es:List Ent} {junk:List Value} {p:Pl} (h:BkJ w b es junk p) (i:Nat):w.cell? ⟨b,576+i,none⟩=(plc es.length p)[i]?:=by
 rw[h.cell]
 unfold jq
 rw[List.getElem?_append_right (by rw[aO];have:=h.fit;omega),List.getElem?_append_right (by rw[aO];have:=h.fit;omega)]
 congr 1
 rw[aO]
 have:=h.fit
 omega
structure C9 (w:World) (g o:Nat) (h:Hd) (v:Value):Prop where
 c0:w.cell? ⟨g,o,none⟩=some (.string h.nm)
 c1:w.cell? ⟨g,o+1,none⟩=some (.int .u8 h.su)
 c2:w.cell? ⟨g,o+2,none⟩=some (.int .u8 h.kd)
 c3:w.cell? ⟨g,o+3,none⟩=some (.int .i64 h.co)
 c4:w.cell? ⟨g,o+4,none⟩=some (.int .i64 h.po)
 c5:w.cell? ⟨g,o+5,none⟩=some (.int .i64 h.he)
 c6:w.cell? ⟨g,o+6,none⟩=some (.int .u16 h.tr)
 c7:w.cell? ⟨g,o+7,none⟩=some (.bool h.tk)
 c8:w.cell? ⟨g,o+8,none⟩=some v
theorem C9.keep {w w':World} {g o:Nat} {h:Hd} {v:Value} (k:C9 w g o h v) (hg:w.grownBy w' none):C9 w' g o h v :=
 ⟨hg.cell k.c0 (by simp),hg.cell k.c1 (by simp),hg.cell k.c2 (by simp),hg.cell k.c3 (by simp),hg.cell k.c4 (by simp),hg.cell k.c5 (by simp),hg.cell k.c6 (by simp),hg.cell k.c7 (by simp),hg.cell k.c8 (by simp)⟩
def ll (w:World) (g o:Nat) (es:List Ent):Prop:=∀ (j:Nat) e,es[j]?=some e→C9 w g (o+j*9) e.h e.v
theorem ll.keep {w w':World} {g o:Nat} {es:List Ent} (h:ll w g o es) (k:w.grownBy w' none):ll w' g o es:=fun j e he=>(h j e he).keep k
theorem BkJ.row {w:World} {b:Nat} {es:List Ent} {junk:List Value} {p:Pl} (h:BkJ w b es junk p):ll w b 0 es:=fun j e he=>by
 have hj:j<es.length:=(List.getElem?_eq_some_iff.1 he).1
 have at_:∀ k u,k<9→(cvs e.h e.v)[k]?=some u→w.cell? ⟨b,0+j*9+k,none⟩=some u:=fun k u hk hu=>by
  rw[Nat.zero_add,h.cell]
  unfold jq
  rw[List.getElem?_append_left (by rw[aO];omega),kE es j e he k hk]
  exact hu
 exact⟨at_ 0 _ (by omega) rfl,at_ 1 _ (by omega) rfl,at_ 2 _ (by omega) rfl,at_ 3 _ (by omega) rfl,at_ 4 _ (by omega) rfl,at_ 5 _ (by omega) rfl,at_ 6 _ (by omega) rfl,at_ 7 _ (by omega) rfl,at_ 8 _ (by omega) rfl⟩
structure i6 (w:World) (b:Nat) (n:Nat) (p:Pl):Prop where
 made:w.cell? ⟨b,576,none⟩=some (.bool true)
 shut:w.cell? ⟨b,577,none⟩=some (.bool p.shut)
 count:w.cell? ⟨b,578,none⟩=some (.int .i64 (n:Int))
theorem BkJ.flags {w:World} {b:Nat} {es:List Ent} {junk:List Value} {p:Pl} (h:BkJ w b es junk p):i6 w b es.length p :=
 ⟨h.tail 0,h.tail 1,h.tail 2⟩
theorem BkJ.name {w:World} {b:Nat} {es:List Ent} {junk:List Value} {p:Pl} (h:BkJ w b es junk p) {t:Nat} {s:ByteArray} (ht:p.nms[t]?=some s):w.cell? ⟨b,579+t,none⟩=some (.string s):=by
 have hl:t<p.nms.length:=(List.getElem?_eq_some_iff.1 ht).1
 have:=h.tail (3+t)
 rw[show 576+(3+t)=579+t by omega] at this
 rw[this]
 unfold plc
 rw[show 3+t=t+1+1+1 by omega,List.getElem?_cons_succ,List.getElem?_cons_succ,List.getElem?_cons_succ,List.getElem?_append_left (by simpa using hl),List.getElem?_map,ht]
 rfl
structure M4 (w:World) (g o:Nat) (m:Mk):Prop where
 c0:w.cell? ⟨g,o,none⟩=some (.int .u8 m.mi)
 c1:w.cell? ⟨g,o+1,none⟩=some (.string m.nm)
 c2:w.cell? ⟨g,o+2,none⟩=some (.int .i64 m.po)
 c3:w.cell? ⟨g,o+3,none⟩=some (.int .i64 m.he)
theorem M4.keep {w w':World} {g o:Nat} {m:Mk} (k:M4 w g o m) (hg:w.grownBy w' none):M4 w' g o m :=
 ⟨hg.cell k.c0 (by simp),hg.cell k.c1 (by simp),hg.cell k.c2 (by simp),hg.cell k.c3 (by simp)⟩
theorem BkJ.mark {w:World} {b:Nat} {es:List Ent} {junk:List Value} {p:Pl} (h:BkJ w b es junk p) {t:Nat} {m:Mk} (ht:p.mks[t]?=some m):M4 w b (588+t*4) m:=by
 have hl:t<p.mks.length:=(List.getElem?_eq_some_iff.1 ht).1
 have at_:∀ k u,k<4→(mvs m)[k]?=some u→w.cell? ⟨b,588+t*4+k,none⟩=some u:=fun k u hk hu=>by
  have:=h.tail (12+(t*4+k))
  rw[show 576+(12+(t*4+k))=588+t*4+k by omega] at this
  rw[this]
  unfold plc
  rw[show 12+(t*4+k)=9+(t*4+k)+1+1+1 by omega,List.getElem?_cons_succ,List.getElem?_cons_succ,List.getElem?_cons_succ,List.getElem?_append_right (by simp[h.nine]),List.length_map,h.nine]
  rw[show 9+(t*4+k) - 9=t*4+k by omega,kR _ _ _ ht k hk]
  exact hu
 exact⟨at_ 0 _ (by omega) rfl,at_ 1 _ (by omega) rfl,at_ 2 _ (by omega) rfl,at_ 3 _ (by omega) rfl⟩
theorem BkJ.free {w:World} {b:Nat} {es:List Ent} {junk:List Value} {p:Pl} (h:BkJ w b es junk p) (i:Nat):w.frozen? ⟨b,i,none⟩=false:=aA h.lies i
theorem BkJ.keepR {w w':World} {b:Nat} {es:List Ent} {junk:List Value} {p:Pl} {r:Option Nat} (h:BkJ w b es junk p) (g:w.grownBy w' r) (hr:some b≠r):BkJ w' b es junk p:=⟨ai g h.lies hr,h.fit,h.nine,h.five⟩
theorem BkJ.keep {w w':World} {b:Nat} {es:List Ent} {junk:List Value} {p:Pl} (h:BkJ w b es junk p) (g:w.grownBy w' none):BkJ w' b es junk p:=h.keepR g (by simp)
theorem dH.keepR {w w':World} {b:Nat} {es:List Ent} {p:Pl} {r:Option Nat} (h:dH w b es p) (g:w.grownBy w' r) (hr:some b≠r):dH w' b es p:=h.imp fun _ k=>k.keepR g hr
theorem dH.keep {w w':World} {b:Nat} {es:List Ent} {p:Pl} (h:dH w b es p) (g:w.grownBy w' none):dH w' b es p:=h.keepR g (by simp)
theorem dH.len {w:World} {b:Nat} {es:List Ent} {p:Pl} (h:dH w b es p):es.length≤64:=by obtain⟨j,h⟩:=h;have:=h.fit;omega
theorem dH.row {w:World} {b:Nat} {es:List Ent} {p:Pl} (h:dH w b es p):ll w b 0 es:=by obtain⟨j,h⟩:=h;exact h.row
theorem dH.flags {w:World} {b:Nat} {es:List Ent} {p:Pl} (h:dH w b es p):i6 w b es.length p:=by obtain⟨j,h⟩:=h;exact h.flags

def iw (ok:Nat→Prop) (w:World) (v:Value) (ps:List Pt):Prop:=bY w v ps∧∀ g o n c,v=.slice (some ⟨g,o,none⟩) n c→0<n→ok g
theorem iw.keep {ok:Nat→Prop} {w w':World} {v:Value} {ps:List Pt} (h:iw ok w v ps) (g:w.grownBy w' none):iw ok w' v ps:=⟨h.1.keep g,h.2⟩
theorem iw.mono {ok ok':Nat→Prop} {w:World} {v:Value} {ps:List Pt} (h:iw ok w v ps) (k:∀ i,ok i→ok' i):iw ok' w v ps:=⟨h.1,fun g o n c e hn=>k g (h.2 g o n c e hn)⟩
theorem iw.keepR {ok:Nat→Prop} {w w':World} {v:Value} {ps:List Pt} {r:Option Nat} (h:iw ok w v ps) (g:w.grownBy w' r) (hr:∀ k,ok k→some k≠r):iw ok w' v ps:=by
 refine⟨?_,h.2⟩
 by_cases h0:0<ps.length
 ·obtain⟨b,o,cap,ev,_⟩:=h.1.part h0
  have hb:=h.2 b o _ _ ev h0
  rcases h.1 with ⟨_,hn⟩ | ⟨ad,cap',e,hc,k⟩
  ·rw[hn] at h0;simp at h0
  ·rw[ev] at e
   injection e with e1 _ _
   injection e1 with e1
   subst e1
   refine Or.inr ⟨_,cap',by rw[ev];congr,hc,fun j u hu=>g.cell (k j u hu) (by rw[cG];exact hr b hb)⟩
 ·obtain rfl:ps=[]:=List.eq_nil_of_length_eq_zero (by omega)
  obtain⟨a,cap,rfl⟩:=h.1.form
  exact bY.nil h.1 w'
def cX (ok:Nat→Prop) (w:World) (es:List Ent):Prop:=∀ e∈es,iw ok w e.v e.ps
theorem cX.keep {ok:Nat→Prop} {w w':World} {es:List Ent} (h:cX ok w es) (g:w.grownBy w' none):cX ok w' es:=fun e he=>(h e he).keep g
theorem cX.keepR {ok:Nat→Prop} {w w':World} {es:List Ent} {r:Option Nat} (h:cX ok w es) (g:w.grownBy w' r) (hr:∀ k,ok k→some k≠r):cX ok w' es:=fun e he=>(h e he).keepR g hr
theorem cX.mono {ok ok':Nat→Prop} {w:World} {es:List Ent} (h:cX ok w es) (k:∀ i,ok i→ok' i):cX ok' w es:=fun e he=>(h e he).mono k
set_option maxRecDepth 100000
def gG:Pl:=⟨false,List.replicate 9 ⟨#[]⟩,List.replicate 5 Mk.none⟩
def Ck:List Value:=cvs Hd.none (.slice none 0 0)
def qH:Nat→List Value
 | 0=>[]
 | n+1=>Ck++qH n
def plA:Array Value:=(plc 0 gG).toArray
def bkA:Array Value:=(jq [] (qH 64) gG).toArray
theorem ru (w:World):(Instr.build 193 #[(0,.bool true)]).run Tryz.prog w=.ok (.agg plA) w:=by kernel_rfl
theorem qK (w:World):(Instr.build 196 #[(1,.agg plA)]).run Tryz.prog w=.ok (.agg bkA) w:=by kernel_rfl
theorem vP (cs:Array Value) (w:World):(Instr.box 196 (.agg cs)).run Tryz.prog w=.ok (.pointer (some ⟨w.heap.size,0,none⟩)) (w.alloc (.cells cs 196)):=rfl
theorem B7 (w:World):Calls Tryz.prog 48 #[] w fun e w'=>e=.returned (.pointer (some ⟨w.heap.size,0,none⟩))∧dH w' w.heap.size [] gG∧w.grownBy w' none∧w'.heap.size=w.heap.size+1:=by
 go_enter Tryz.func48,Tryz.ntmps48
 go_wp2_with (first | (refine ji ?g 193 #[(0,.const (.bool true))] ?ho #[(0,.bool true)] ?hv (.agg plA) (ru _) ?_;(case g=>rfl);(case ho=>rfl);(case hv=>simp[Act.eval])) | (refine ji ?g 196 #[(1,.tmp 1)] ?ho #[(1,.agg plA)] ?hv (.agg bkA) (qK _) ?_;(case g=>rfl);(case ho=>rfl);(case hv=>simp[Act.eval])) | (refine qz ?g 196 (.tmp 2) ?ho (.agg bkA) ?hv _ (vP bkA _) ?_;(case g=>rfl);(case ho=>rfl);(case hv=>simp[Act.eval])) | fail)
 go_ret
 refine⟨rfl,⟨qH 64,?_,rfl,rfl,rfl⟩,World.grownBy_alloc w _ none,by simp⟩
 exact ak w bkA 196

def nN (w:World) (v:Value):Prop:=v=.pointer none∨∃ b,v=.pointer (some ⟨b,0,none⟩)∧w.cell? ⟨b,576,none⟩=some (.bool false)
theorem nN.keep {w w':World} {v:Value} (h:nN w v) (g:w.grownBy w' none):nN w' v:=by
 rcases h with h | ⟨b,e,h⟩
 ·exact Or.inl h
 ·exact Or.inr ⟨b,e,g.cell h (by simp)⟩
theorem fM (b:Nat) (n:Nat) (p:Pl) (w:World) (F:i6 w b n p):Calls Tryz.prog 128 #[.pointer (some ⟨b,0,none⟩)] w fun e w'=>e=.returned (.bool true)∧w'=w:=by
 have c:=F.made
 go_enter Tryz.func128,Tryz.ntmps128
 go_wp2
 go_ret
 exact⟨rfl,rfl⟩
theorem wO (v:Value) (w:World) (h:nN w v):Calls Tryz.prog 128 #[v] w fun e w'=>e=.returned (.bool false)∧w'=w:=by
 rcases h with rfl | ⟨b,rfl,c⟩
 ·go_enter Tryz.func128,Tryz.ntmps128
  go_wp2
  go_ret
  exact⟨rfl,rfl⟩
 ·go_enter Tryz.func128,Tryz.ntmps128
  go_wp2
  go_ret
  exact⟨rfl,rfl⟩
theorem iH (b:Nat) (n:Nat) (p:Pl) (w:World) (F:i6 w b n p):Calls Tryz.prog 110 #[.pointer (some ⟨b,0,none⟩)] w fun e w'=>e=.returned (.int .i64 (if p.shut then 7 else 0))∧w'=w:=by
 have c:=F.shut
 have HF:Hid (i6 w b n p):=F
 cases hs:p.shut
 all_goals
  rw[hs] at c
  go_enter Tryz.func110,Tryz.ntmps110
  go_wp2_with (first | (go_at_call 128;refine(fM b n p _ HF.out).mono ?_;rintro e w1 ⟨rfl,h1⟩;obtain rfl:w=w1:=h1.symm) | fail)
  go_ret
  exact⟨rfl,rfl⟩
theorem kl (b:Nat) (n:Nat) (hn:n≤64) (p:Pl) (w:World) (F:i6 w b n p):Calls Tryz.prog 126 #[.pointer (some ⟨b,0,none⟩)] w fun e w'=>e=.returned (.slice (some ⟨b,0,none⟩) n 64)∧w.grownBy w' none∧w'.heap.size=w.heap.size:=by
 have c:=F.count
 have HF:Hid (i6 w b n p):=F
 have h0:(0:Int)≤(n:Int):=by omega
 have h1:(n:Int)≤64:=by omega
 go_enter Tryz.func126,Tryz.ntmps126
 go_wp2_with (first | (go_at_call 128;refine(fM b n p _ HF.out).mono ?_;rintro e w1 ⟨rfl,h1⟩;obtain rfl:w=w1:=h1.symm) | fail)
 go_quiet (fail)
 go_wp2
 go_ret
 exact⟨rfl,aD _ _ _,rfl⟩
theorem jC (b:Nat) (n:Nat) (p:Pl) (w:World) (F:i6 w b n p):Calls Tryz.prog 57 #[.pointer (some ⟨b,0,none⟩)] w fun e w'=>e=.returned (.bool p.shut)∧w'=w:=by
 have c:=F.shut
 have HF:Hid (i6 w b n p):=F
 go_enter Tryz.func57,Tryz.ntmps57
 go_wp2_with (first | (go_at_call 128;refine(fM b n p _ HF.out).mono ?_;rintro e w1 ⟨rfl,h1⟩;obtain rfl:w=w1:=h1.symm) | fail)
 go_ret
 exact⟨rfl,rfl⟩
theorem Bq (b:Nat) (n:Nat) (hn:n≤64) (p:Pl) (w:World) (F:i6 w b n p):Calls Tryz.prog 251 #[.pointer (some ⟨b,0,none⟩)] w fun e w'=>e=.returned (.int .i64 n)∧w.grownBy w' none∧w'.heap.size=w.heap.size:=by
 go_enter Tryz.func251,Tryz.ntmps251
 go_wp2_with (first | (go_at_call 126;refine(kl b n hn p _ F).mono ?_;rintro e w1 ⟨rfl,g1,s1⟩) | fail)
 go_ret
 exact⟨rfl,g1,s1⟩
set_option maxHeartbeats 2000000
def pos:List ByteArray→ByteArray→Int
 | [],_=>-1
 | x :: r,s=>if x=s then 0 else if pos r s<0 then -1 else pos r s+1
theorem lw:∀ (l:List ByteArray) (s:ByteArray),-1≤pos l s∧pos l s<l.length
 | [],s=>by simp[pos]
 | x :: r,s=>by
  have:=lw r s
  simp only[pos,List.length_cons]
  split
  ·omega
  ·split <;> omega
theorem pZ:∀ (l:List ByteArray) (s:ByteArray) (k:Nat),l[k]?=some s→(∀ (j:Nat) x,j<k→l[j]?=some x→¬x=s)→pos l s=k
 | [],s,k,h,_=>by simp at h
 | x :: r,s,0,h,_=>by
  obtain rfl:x=s:=by simpa using h
  simp[pos]
 | x :: r,s,k+1,h,hn=>by
  have hx:¬x=s:=hn 0 x (by omega) rfl
  have ih:=pZ r s k (by simpa using h) (fun j y hj hy=>hn (j+1) y (by omega) (by simpa using hy))
  simp only[pos,if_neg hx,ih]
  rw[if_neg (by omega)]
  omega
theorem mB:∀ (l:List ByteArray) (s:ByteArray),(∀ (j:Nat) x,l[j]?=some x→¬x=s)→pos l s=-1
 | [],s,_=>rfl
 | x :: r,s,hn=>by
  have ih:=mB r s (fun j y hy=>hn (j+1) y (by simpa using hy))
  simp only[pos,if_neg (hn 0 x rfl),ih]
  rfl
theorem uX:∀ (l:List ByteArray) (s:ByteArray),0≤pos l s→l[(pos l s).toNat]?=some s
 | [],s,h=>by simp[pos] at h
 | x :: r,s,h=>by
  simp only[pos] at h ⊢
  by_cases hx:x=s
  ·simp[hx]
  ·rw[if_neg hx] at h ⊢
   by_cases hp:pos r s<0
   ·rw[if_pos hp] at h;omega
   ·rw[if_neg hp]
    have ih:=uX r s (by omega)
    rw[show (pos r s+1).toNat=(pos r s).toNat+1 by omega,List.getElem?_cons_succ]
    exact ih
theorem pJ {l:List ByteArray} {s:ByteArray} (h:pos l s<0):s ∉ l:=by
 induction l with
 | nil=>simp
 | cons x r ih =>
  simp only[pos] at h
  by_cases hx:x=s
  ·rw[if_pos hx] at h;omega
  ·rw[if_neg hx] at h
   by_cases hp:pos r s<0
   ·intro hm
    rcases List.mem_cons.1 hm with e | e
    ·exact hx e.symm
    ·exact ih hp e
   ·rw[if_neg hp] at h;omega
def bs (es:List Ent):List ByteArray:=es.map fun e=>e.h.nm
theorem zd {es:List Ent} {k:Nat} {e:Ent} (h:es[k]?=some e):(bs es)[k]?=some e.h.nm:=by simp[bs,h]
theorem nX (es:List Ent):(bs es).length=es.length:=by simp[bs]
theorem iE {s t:ByteArray} (h:¬s=t):(s.toList == t.toList)=false:=Bp h
theorem gI {s t:ByteArray} (h:s=t):(s.toList == t.toList)=true:=by subst h;simp
theorem lS (h:Hd) (v:Value) (x:Nat) (s:ByteArray) (w:World) (hx:w.cell? ⟨x,0,none⟩=some (.string s)) (hl:∃ a n c,v=.slice a n c):Calls Tryz.prog 240 #[cv h v,.pointer (some ⟨x,0,none⟩)] w fun e w'=>e=.returned (.bool (decide (h.nm=s)))∧w.grownBy w' none:=by
 obtain⟨a,n,c,rfl⟩:=hl
 obtain⟨nm,su,kd,co,po,he,tr,tk⟩:=h
 unfold cv
 simp only
 have hx':(w.alloc (.cells (ccs ⟨nm,su,kd,co,po,he,tr,tk⟩ (.slice a n c)) 111)).cell? ⟨x,0,none⟩=some (.string s):=(World.grownBy_alloc _ _ none).cell hx (by simp)
 unfold ccs at hx'
 by_cases e:nm=s
 ·have k:=gI e
  rw[decide_eq_true e]
  clear e hx
  go_enter Tryz.func240,Tryz.ntmps240
  go_wp2
  go_ret
  exact⟨rfl,World.grownBy_alloc _ _ none⟩
 ·have k:=iE e
  rw[decide_eq_false e]
  clear e hx
  go_enter Tryz.func240,Tryz.ntmps240
  go_wp2
  go_ret
  exact⟨rfl,World.grownBy_alloc _ _ none⟩
def gx (es:List Ent) (s:ByteArray) (k:Nat):Prop:=∀ (j:Nat) e,j<k→es[j]?=some e→¬e.h.nm=s
theorem lC {es:List Ent} {s:ByteArray} {k:Nat} {e:Ent} (h:gx es s k) (he:es[k]?=some e) (hs:e.h.nm=s):pos (bs es) s=k:=by
 subst hs
 refine pZ _ _ _ (zd he) fun j x hj hx=>?_
 simp only[bs,List.getElem?_map,Option.map_eq_some_iff] at hx
 obtain⟨a,ha,rfl⟩:=hx
 exact h j a hj ha
theorem lB {es:List Ent} {s:ByteArray} (h:gx es s es.length):pos (bs es) s=-1:=by
 refine mB _ _ fun j x hx=>?_
 simp only[bs,List.getElem?_map,Option.map_eq_some_iff] at hx
 obtain⟨a,ha,rfl⟩:=hx
 exact h j a (List.getElem?_eq_some_iff.1 ha).1 ha
theorem l5 {es:List Ent} {s:ByteArray} {k:Nat} {e:Ent} (h:gx es s k) (he:es[k]?=some e) (hs:¬e.h.nm=s):gx es s (k+1):=fun j x hj hx=>by
 rcases (show j<k∨j=k by omega) with hj | rfl
 ·exact h j x hj hx
 ·rw[he] at hx
  cases hx
  exact hs
def Slc (es:List Ent):Prop:=∀ e∈es,∃ a n c,e.v=.slice a n c
theorem cX.slc {ok:Nat→Prop} {w:World} {es:List Ent} (h:cX ok w es):Slc es:=fun e he=>by
 obtain⟨a,c,e1⟩:=(h e he).1.form
 exact⟨a,_,c,e1⟩
theorem ur (g o cap:Nat) (es:List Ent) (x:Nat) (s:ByteArray) (w:World) (hE:ll w g o es) (hs:Slc es) (hx:w.cell? ⟨x,0,none⟩=some (.string s)) (hm:es.length≤64):Calls Tryz.prog 239 #[.slice (some ⟨g,o,none⟩) es.length cap,.func (.func 240) #[] #[.pointer (some ⟨x,0,none⟩)]] w fun e w'=>e=.returned (.int .i64 (pos (bs es) s))∧w.grownBy w' none:=by
 have HE:Hid (ll w g o es):=hE
 have HS:Hid (Slc es):=hs
 have HX:Hid (w.cell? ⟨x,0,none⟩=some (.string s)):=hx
 have hm':aZ es.length:=by unfold aZ;omega
 clear hE hs hx hm
 go_enter Tryz.func239,Tryz.ntmps239
 go_wp2_with fail
 go_loopw [8] (fun i wr=>∃ k:Nat,k≤es.length∧i=.int .i64 k∧gx es s k∧w.grownBy wr none) (fun i _=>es.length - (intOf i).toNat)
 case atStart=>exact⟨0,Nat.zero_le _,rfl,fun j e hj=>by omega,ay _ _⟩
 case round =>
  obtain⟨k,hk,rfl,R,G⟩:=hrel
  have HG:Hid (w.grownBy wr none):=G
  have HR:Hid (gx es s k):=R
  clear G R
  rcases (show k=es.length∨k<es.length from by omega) with hke | hlt
  ·have HP:Hid (pos (bs es) s=-1):=lB (hke ▸ HR.out)
   clear HR
   subst hke
   go_wp2
   go_ret
   exact⟨aK HP.out.symm,HG.out⟩
  ·have hlt':(k:Int)<(es.length:Int):=by omega
   have hk0:(0:Int)≤(k:Int):=by omega
   have hw:=hm'.wrap hlt
   obtain⟨e,he⟩:∃ e,es[k]?=some e:=⟨_,List.getElem?_eq_getElem hlt⟩
   obtain⟨a,n,c,hv⟩:=HS.out e (List.mem_of_getElem? he)
   have D:=(HE.out k e he).keep HG.out
   rw[hv] at D
   obtain⟨d0,d1,d2,d3,d4,d5,d6,d7,d8⟩:=D
   have HK:Hid (wr.cell? ⟨x,0,none⟩=some (.string s)):=HG.out.cell HX.out (by simp)
   by_cases hq:e.h.nm=s
   ·have HP:Hid (pos (bs es) s=k):=lC HR.out he hq
    have hd:decide (e.h.nm=s)=true:=decide_eq_true hq
    clear HR he hq hv
    go_wp2_with (first | (go_at_call 240;refine(lS e.h (.slice a n c) x s _ HK.out ⟨a,n,c,rfl⟩).mono ?_;rintro e1 w1 ⟨rfl,g1⟩;rw[hd]) | fail)
    go_ret
    exact⟨aK HP.out.symm,aa HG.out g1⟩
   ·have HN:Hid (gx es s (k+1)):=l5 HR.out he hq
    have hd:decide (e.h.nm=s)=false:=decide_eq_false hq
    clear HR he hq hv
    go_wp2_with (first | (go_at_call 240;refine(lS e.h (.slice a n c) x s _ HK.out ⟨a,n,c,rfl⟩).mono ?_;rintro e1 w1 ⟨rfl,g1⟩;rw[hd]) | fail)
    go_roundw
    case rel=>exact⟨k+1,hlt,by first | rfl | (rw[hw];rfl),HN.out,aa HG.out g1⟩
    case measure=>first | exact au hlt | (rw[hw];exact au hlt)
theorem oD (b:Nat) (es:List Ent) (p:Pl) (s:ByteArray) (w:World) (hB:dH w b es p) (hs:Slc es):Calls Tryz.prog 177 #[.pointer (some ⟨b,0,none⟩),.string s] w fun e w'=>e=.returned (.int .i64 (pos (bs es) s))∧w.grownBy w' none:=by
 have hmf:∀ fn bound caps ww,(Instr.makeFunc fn bound caps).run Tryz.prog ww=.ok (.func fn bound caps) ww:=fun _ _ _ _=>rfl
 have HB:Hid (dH (w.alloc (.cells #[.string s] 9)) b es p):=hB.keep (World.grownBy_alloc _ _ none)
 have HX:Hid ((w.alloc (.cells #[.string s] 9)).cell? ⟨w.heap.size,0,none⟩=some (.string s)):=ae (ak w #[.string s] 9) 0
 clear hB
 go_enter Tryz.func177,Tryz.ntmps177
 go_wp2_with (first | (go_at_call 126;refine(kl b es.length HB.out.len p _ HB.out.flags).mono ?_;rintro e w1 ⟨rfl,g1,_⟩) | (go_at_call 239;refine(ur b 0 64 es _ s _ (HB.out.row.keep g1) hs (g1.cell HX.out (by simp)) HB.out.len).mono ?_;rintro e w2 ⟨rfl,g2⟩) | fail)
 go_ret
 exact⟨rfl,aa (aa (World.grownBy_alloc _ _ none) g1) g2⟩
theorem oO (b:Nat) (es:List Ent) (p:Pl) (s:ByteArray) (w:World) (hB:dH w b es p) (hs:Slc es):Calls Tryz.prog 112 #[.pointer (some ⟨b,0,none⟩),.string s] w fun e w'=>e=.returned (.bool (decide (0≤pos (bs es) s)))∧w.grownBy w' none:=by
 go_enter Tryz.func112,Tryz.ntmps112
 go_wp2_with (first | (go_at_call 177;refine(oD b es p s _ hB hs).mono ?_;rintro e w1 ⟨rfl,g1⟩) | fail)
 go_ret
 exact⟨rfl,g1⟩
open Go.Shelf
def Tryz.lays316_ren:Go.Shelf.Ren:=⟨fun | 316=>188 | n=>n,fun | 9=>9 | 3=>3 | 4=>4 | 37=>314 | 0=>0 | 127=>315 | 5=>5 | n=>n,fun | n=>n⟩
theorem Tryz.lays316:Go.Proofs.LaysM.n316 Tryz.prog Tryz.lays316_ren:={
 mixed:=by kernel_rfl
 f316:=Tryz.func188.trans (congrArg some (by kernel_rfl))
 t0:=Tryz.underlying0
 a0:=Tryz.isAgg0
 z0:=Tryz.sizeOf0
 v0:=Tryz.zeroValue0
 t3:=Tryz.underlying3
 a3:=Tryz.isAgg3
 z3:=Tryz.sizeOf3
 v3:=Tryz.zeroValue3
 t4:=Tryz.underlying4
 a4:=Tryz.isAgg4
 z4:=Tryz.sizeOf4
 v4:=Tryz.zeroValue4
 t9:=Tryz.underlying9
 a9:=Tryz.isAgg9
 z9:=Tryz.sizeOf9
 v9:=Tryz.zeroValue9
 t37:=Tryz.underlying314
 a37:=Tryz.isAgg314
 z37:=Tryz.sizeOf314
 v37:=Tryz.zeroValue314
 t127:=Tryz.underlying315
 a127:=Tryz.isAgg315
 z127:=Tryz.sizeOf315
 v127:=Tryz.zeroValue315
 t5:=Tryz.underlying5
 a5:=Tryz.isAgg5
 z5:=Tryz.sizeOf5
 v5:=Tryz.zeroValue5
 i0:=by kernel_rfl
 i3:=by kernel_rfl
 i4:=by kernel_rfl
 i5:=by kernel_rfl
 i9:=by kernel_rfl
 i37:=by kernel_rfl
 i127:=by kernel_rfl }
theorem so {w w':World} (h:Below w.heap.size w w'):w.grownBy w' none:=⟨h.os,h.tape,h.output,h.size,fun k hk _=>h.block k hk⟩
theorem kT (s:ByteArray) (hs:s.size≤281474976710656) (w:World):Calls Tryz.prog 124 #[.string s] w fun e w'=>e=.returned (.string s)∧w.grownBy w' none:=by
 have c:=Any.stringslite_Clone Tryz.lays316 s w hs
 change Calls Tryz.prog 188 _ _ _ at c
 go_enter Tryz.func124,Tryz.ntmps124
 go_wp2_with (go_at_call 188;refine c.mono ?_;rintro e w1 ⟨rfl,h⟩)
 go_ret
 exact⟨rfl,so h⟩
end Go.Proofs.YtjmepebbcnhalaaGreat
namespace Go.Proofs.YtjmepebbcnhalaaGreat
open Go.RowKit
def fF (n:Int):Bool:=decide (-9≤n) && decide (n≤9)
theorem mI (n:Int) (w:World):Calls Tryz.prog 121 #[.int .i64 n] w fun e w'=>e=.returned (.bool (fF n))∧w'=w:=by
 by_cases h:-9≤n
 ·have e:fF n=decide (n≤9):=by simp[fF,h]
  rw[e]
  go_enter Tryz.func121,Tryz.ntmps121
  go_wp2
  go_ret
  exact⟨rfl,rfl⟩
 ·have e:fF n=false:=by simp[fF,h]
  rw[e]
  go_enter Tryz.func121,Tryz.ntmps121
  go_wp2
  go_ret
  exact⟨rfl,rfl⟩
def zg (l:List ByteArray) (s:ByteArray) (k:Nat):Prop:=∀ (j:Nat) x,j<k→l[j]?=some x→¬x=s
theorem xP {l:List ByteArray} {s x:ByteArray} {k:Nat} (h:zg l s k) (he:l[k]?=some x) (hs:¬x=s):zg l s (k+1):=fun j y hj hy=>by
 rcases (show j<k∨j=k by omega) with hj | rfl
 ·exact h j y hj hy
 ·rw[he] at hy
  cases hy
  exact hs
theorem aV {a b c:World} {r:Option Nat} (h:a.grownBy b none) (k:b.grownBy c r):a.grownBy c r:=⟨k.os.trans h.os,k.tape.trans h.tape,k.output.trans h.output,Nat.le_trans h.size k.size,fun i hi hr=>(k.block i (Nat.lt_of_lt_of_le hi h.size) hr).trans (h.block i hi (by simp))⟩
theorem vZ {x:ByteArray} (h:¬x=⟨#[]⟩):(x.toList == [])=false:=by
 cases hb:(x.toList == []) with
 | false=>rfl
 | true=>exact absurd (fD (by rw[eq_of_beq hb];kernel_rfl)) h
theorem getD_some {α:Type} {l:List α} {k:Nat} {d:α} (h:k<l.length):l[k]?=some (l.getD k d):=by simp[List.getD,h]
end Go.Proofs.YtjmepebbcnhalaaGreat
