import Derived.Test.YtjmepebbcnhalaaGreatW13
import Derived.Test.YtjmepebbcnhalaaGreatW14
import Derived.Test.YtjmepebbcnhalaaGreatW0
namespace Go.Proofs.YtjmepebbcnhalaaGreat
open Go.RowKit
structure Rv where
 r:Rw
 pa:Option Addr
 ca:Nat
def Rv.u (x:Rv):Value:=.slice x.pa x.r.ps.length x.ca
def rws (X:List Rv):List Rw:=X.map Rv.r
theorem cm (X:List Rv):(rws X).length=X.length:=List.length_map _
theorem fA {X:List Rv} {i:Nat} (h:i<X.length):(rws X).getD i Rw.none=X[i].r:=by
 unfold rws
 rw[List.getD_eq_getElem?_getD,List.getElem?_map,List.getElem?_eq_getElem h]
 rfl
def thc (t:Th):List Value:=[.int .i64 t.card,.int .i64 t.owner,.int .u8 t.place,.int .i64 t.stamp,.int .i64 t.hurt,.int .i64 t.m0,.int .i64 t.m1,.int .i64 t.m2,.int .i64 t.m3,.int .i64 t.done,.bool t.fresh]
theorem yi (t:Th):∀ v∈thc t,v.oneCell'=true:=fun v h=>by
 simp only[thc,List.mem_cons,List.not_mem_nil,or_false] at h
 rcases h with h | h | h | h | h | h | h | h | h | h | h <;> (subst h;rfl)
def thR:aB Th:=⟨11,thc,fun _=>rfl,yi,by decide⟩
theorem dh {w:World} {g o:Nat} {t:Th} (h:w.rangeAt g o (thc t)):w.cell? ⟨g,o,none⟩=some (.int .i64 t.card)∧w.cell? ⟨g,o+1,none⟩=some (.int .i64 t.owner)∧w.cell? ⟨g,o+2,none⟩=some (.int .u8 t.place)∧w.cell? ⟨g,o+3,none⟩=some (.int .i64 t.stamp)∧w.cell? ⟨g,o+4,none⟩=some (.int .i64 t.hurt)∧w.cell? ⟨g,o+5,none⟩=some (.int .i64 t.m0)∧w.cell? ⟨g,o+6,none⟩=some (.int .i64 t.m1)∧w.cell? ⟨g,o+7,none⟩=some (.int .i64 t.m2)∧w.cell? ⟨g,o+8,none⟩=some (.int .i64 t.m3)∧w.cell? ⟨g,o+9,none⟩=some (.int .i64 t.done)∧w.cell? ⟨g,o+10,none⟩=some (.bool t.fresh) :=
 ⟨h 0 _ rfl,h 1 _ rfl,h 2 _ rfl,h 3 _ rfl,h 4 _ rfl,h 5 _ rfl,h 6 _ rfl,h 7 _ rfl,h 8 _ rfl,h 9 _ rfl,h 10 _ rfl⟩
def ThB (w:World) (g:Nat) (t:Th):Prop:=w.heap[g]?=some (.cells #[.int .i64 t.card,.int .i64 t.owner,.int .u8 t.place,.int .i64 t.stamp,.int .i64 t.hurt,.int .i64 t.m0,.int .i64 t.m1,.int .i64 t.m2,.int .i64 t.m3,.int .i64 t.done,.bool t.fresh] 120 (0,0))
theorem dj {w:World} {g:Nat} {t:Th} (h:ThB w g t):w.cell? ⟨g,0,none⟩=some (.int .i64 t.card)∧w.cell? ⟨g,1,none⟩=some (.int .i64 t.owner)∧w.cell? ⟨g,2,none⟩=some (.int .u8 t.place)∧w.cell? ⟨g,3,none⟩=some (.int .i64 t.stamp)∧w.cell? ⟨g,4,none⟩=some (.int .i64 t.hurt)∧w.cell? ⟨g,5,none⟩=some (.int .i64 t.m0)∧w.cell? ⟨g,6,none⟩=some (.int .i64 t.m1)∧w.cell? ⟨g,7,none⟩=some (.int .i64 t.m2)∧w.cell? ⟨g,8,none⟩=some (.int .i64 t.m3)∧w.cell? ⟨g,9,none⟩=some (.int .i64 t.done)∧w.cell? ⟨g,10,none⟩=some (.bool t.fresh) :=
 ⟨(ae h 0).trans rfl,(ae h 1).trans rfl,(ae h 2).trans rfl,(ae h 3).trans rfl,(ae h 4).trans rfl,(ae h 5).trans rfl,(ae h 6).trans rfl,(ae h 7).trans rfl,(ae h 8).trans rfl,(ae h 9).trans rfl,(ae h 10).trans rfl⟩
def fec (f:Fe):List Value:=[.int .i64 f.ho,.int .u8 f.su,.int .u16 f.tr,.int .i64 f.po,.int .i64 f.he]
theorem n7 (f:Fe):∀ v∈fec f,v.oneCell'=true:=fun v h=>by
 simp only[fec,List.mem_cons,List.not_mem_nil,or_false] at h
 rcases h with h | h | h | h | h <;> (subst h;rfl)
def feR:aB Fe:=⟨5,fec,fun _=>rfl,n7,by decide⟩
theorem bJ {w:World} {g o:Nat} {f:Fe} (h:w.rangeAt g o (fec f)):w.cell? ⟨g,o,none⟩=some (.int .i64 f.ho)∧w.cell? ⟨g,o+1,none⟩=some (.int .u8 f.su)∧w.cell? ⟨g,o+2,none⟩=some (.int .u16 f.tr)∧w.cell? ⟨g,o+3,none⟩=some (.int .i64 f.po)∧w.cell? ⟨g,o+4,none⟩=some (.int .i64 f.he) :=
 ⟨h 0 _ rfl,h 1 _ rfl,h 2 _ rfl,h 3 _ rfl,h 4 _ rfl⟩
def FeB (w:World) (g:Nat) (f:Fe):Prop:=w.heap[g]?=some (.cells #[.int .i64 f.ho,.int .u8 f.su,.int .u16 f.tr,.int .i64 f.po,.int .i64 f.he] 122 (0,0))
theorem kD {w:World} {g:Nat} {f:Fe} (h:FeB w g f):w.cell? ⟨g,0,none⟩=some (.int .i64 f.ho)∧w.cell? ⟨g,1,none⟩=some (.int .u8 f.su)∧w.cell? ⟨g,2,none⟩=some (.int .u16 f.tr)∧w.cell? ⟨g,3,none⟩=some (.int .i64 f.po)∧w.cell? ⟨g,4,none⟩=some (.int .i64 f.he) :=
 ⟨(ae h 0).trans rfl,(ae h 1).trans rfl,(ae h 2).trans rfl,(ae h 3).trans rfl,(ae h 4).trans rfl⟩
def sdc (s:Sd):List Value:=[.int .i64 s.th,.int .i64 s.pl,.int .u8 s.wh.wn,.int .u8 s.wh.vb,.int .u8 s.wh.wm,.int .i64 s.wh.ct,.int .u8 s.wh.su,.int .u8 s.wh.tr,.int .u8 s.wh.mr,.string s.wh.nm]
def sdv (s:Sd):Value:=.agg #[.int .i64 s.th,.int .i64 s.pl,.int .u8 s.wh.wn,.int .u8 s.wh.vb,.int .u8 s.wh.wm,.int .i64 s.wh.ct,.int .u8 s.wh.su,.int .u8 s.wh.tr,.int .u8 s.wh.mr,.string s.wh.nm]
theorem iR (s:Sd):∀ v∈sdc s,v.oneCell'=true:=fun v h=>by
 simp only[sdc,List.mem_cons,List.not_mem_nil,or_false] at h
 rcases h with h | h | h | h | h | h | h | h | h | h <;> (subst h;rfl)
def sdR:aB Sd:=⟨10,sdc,fun _=>rfl,iR,by decide⟩
theorem bq {w:World} {g o:Nat} {s:Sd} (h:w.rangeAt g o (sdc s)):w.cell? ⟨g,o,none⟩=some (.int .i64 s.th)∧w.cell? ⟨g,o+1,none⟩=some (.int .i64 s.pl)∧w.cell? ⟨g,o+2,none⟩=some (.int .u8 s.wh.wn)∧w.cell? ⟨g,o+3,none⟩=some (.int .u8 s.wh.vb)∧w.cell? ⟨g,o+4,none⟩=some (.int .u8 s.wh.wm)∧w.cell? ⟨g,o+5,none⟩=some (.int .i64 s.wh.ct)∧w.cell? ⟨g,o+6,none⟩=some (.int .u8 s.wh.su)∧w.cell? ⟨g,o+7,none⟩=some (.int .u8 s.wh.tr)∧w.cell? ⟨g,o+8,none⟩=some (.int .u8 s.wh.mr)∧w.cell? ⟨g,o+9,none⟩=some (.string s.wh.nm) :=
 ⟨h 0 _ rfl,h 1 _ rfl,h 2 _ rfl,h 3 _ rfl,h 4 _ rfl,h 5 _ rfl,h 6 _ rfl,h 7 _ rfl,h 8 _ rfl,h 9 _ rfl⟩
def SdB (w:World) (g:Nat) (s:Sd):Prop:=w.heap[g]?=some (.cells #[.int .i64 s.th,.int .i64 s.pl,.int .u8 s.wh.wn,.int .u8 s.wh.vb,.int .u8 s.wh.wm,.int .i64 s.wh.ct,.int .u8 s.wh.su,.int .u8 s.wh.tr,.int .u8 s.wh.mr,.string s.wh.nm] 64 (0,0))
theorem bl {w:World} {g:Nat} {s:Sd} (h:SdB w g s):w.cell? ⟨g,0,none⟩=some (.int .i64 s.th)∧w.cell? ⟨g,1,none⟩=some (.int .i64 s.pl)∧w.cell? ⟨g,2,none⟩=some (.int .u8 s.wh.wn)∧w.cell? ⟨g,3,none⟩=some (.int .u8 s.wh.vb)∧w.cell? ⟨g,4,none⟩=some (.int .u8 s.wh.wm)∧w.cell? ⟨g,5,none⟩=some (.int .i64 s.wh.ct)∧w.cell? ⟨g,6,none⟩=some (.int .u8 s.wh.su)∧w.cell? ⟨g,7,none⟩=some (.int .u8 s.wh.tr)∧w.cell? ⟨g,8,none⟩=some (.int .u8 s.wh.mr)∧w.cell? ⟨g,9,none⟩=some (.string s.wh.nm) :=
 ⟨(ae h 0).trans rfl,(ae h 1).trans rfl,(ae h 2).trans rfl,(ae h 3).trans rfl,(ae h 4).trans rfl,(ae h 5).trans rfl,(ae h 6).trans rfl,(ae h 7).trans rfl,(ae h 8).trans rfl,(ae h 9).trans rfl⟩
def sec (e:Se):List Value:=[.int .i64 e.s.th,.int .i64 e.s.pl,.int .u8 e.s.wh.wn,.int .u8 e.s.wh.vb,.int .u8 e.s.wh.wm,.int .i64 e.s.wh.ct,.int .u8 e.s.wh.su,.int .u8 e.s.wh.tr,.int .u8 e.s.wh.mr,.string e.s.wh.nm,.int .i64 (e.ro:Int)]
def sev (e:Se):Value:=.agg #[.int .i64 e.s.th,.int .i64 e.s.pl,.int .u8 e.s.wh.wn,.int .u8 e.s.wh.vb,.int .u8 e.s.wh.wm,.int .i64 e.s.wh.ct,.int .u8 e.s.wh.su,.int .u8 e.s.wh.tr,.int .u8 e.s.wh.mr,.string e.s.wh.nm,.int .i64 (e.ro:Int)]
theorem mn (e:Se):∀ v∈sec e,v.oneCell'=true:=fun v h=>by
 simp only[sec,List.mem_cons,List.not_mem_nil,or_false] at h
 rcases h with h | h | h | h | h | h | h | h | h | h | h <;> (subst h;rfl)
def seR:aB Se:=⟨11,sec,fun _=>rfl,mn,by decide⟩
theorem dJ {w:World} {g o:Nat} {e:Se} (h:w.rangeAt g o (sec e)):w.cell? ⟨g,o,none⟩=some (.int .i64 e.s.th)∧w.cell? ⟨g,o+1,none⟩=some (.int .i64 e.s.pl)∧w.cell? ⟨g,o+2,none⟩=some (.int .u8 e.s.wh.wn)∧w.cell? ⟨g,o+3,none⟩=some (.int .u8 e.s.wh.vb)∧w.cell? ⟨g,o+4,none⟩=some (.int .u8 e.s.wh.wm)∧w.cell? ⟨g,o+5,none⟩=some (.int .i64 e.s.wh.ct)∧w.cell? ⟨g,o+6,none⟩=some (.int .u8 e.s.wh.su)∧w.cell? ⟨g,o+7,none⟩=some (.int .u8 e.s.wh.tr)∧w.cell? ⟨g,o+8,none⟩=some (.int .u8 e.s.wh.mr)∧w.cell? ⟨g,o+9,none⟩=some (.string e.s.wh.nm)∧w.cell? ⟨g,o+10,none⟩=some (.int .i64 (e.ro:Int)) :=
 ⟨h 0 _ rfl,h 1 _ rfl,h 2 _ rfl,h 3 _ rfl,h 4 _ rfl,h 5 _ rfl,h 6 _ rfl,h 7 _ rfl,h 8 _ rfl,h 9 _ rfl,h 10 _ rfl⟩
def SeB (w:World) (g:Nat) (e:Se):Prop:=w.heap[g]?=some (.cells #[.int .i64 e.s.th,.int .i64 e.s.pl,.int .u8 e.s.wh.wn,.int .u8 e.s.wh.vb,.int .u8 e.s.wh.wm,.int .i64 e.s.wh.ct,.int .u8 e.s.wh.su,.int .u8 e.s.wh.tr,.int .u8 e.s.wh.mr,.string e.s.wh.nm,.int .i64 (e.ro:Int)] 131 (0,0))
theorem dU {w:World} {g:Nat} {e:Se} (h:SeB w g e):w.cell? ⟨g,0,none⟩=some (.int .i64 e.s.th)∧w.cell? ⟨g,1,none⟩=some (.int .i64 e.s.pl)∧w.cell? ⟨g,2,none⟩=some (.int .u8 e.s.wh.wn)∧w.cell? ⟨g,3,none⟩=some (.int .u8 e.s.wh.vb)∧w.cell? ⟨g,4,none⟩=some (.int .u8 e.s.wh.wm)∧w.cell? ⟨g,5,none⟩=some (.int .i64 e.s.wh.ct)∧w.cell? ⟨g,6,none⟩=some (.int .u8 e.s.wh.su)∧w.cell? ⟨g,7,none⟩=some (.int .u8 e.s.wh.tr)∧w.cell? ⟨g,8,none⟩=some (.int .u8 e.s.wh.mr)∧w.cell? ⟨g,9,none⟩=some (.string e.s.wh.nm)∧w.cell? ⟨g,10,none⟩=some (.int .i64 (e.ro:Int)) :=
 ⟨(ae h 0).trans rfl,(ae h 1).trans rfl,(ae h 2).trans rfl,(ae h 3).trans rfl,(ae h 4).trans rfl,(ae h 5).trans rfl,(ae h 6).trans rfl,(ae h 7).trans rfl,(ae h 8).trans rfl,(ae h 9).trans rfl,(ae h 10).trans rfl⟩
def rvc (x:Rv):List Value:=[.int .i64 x.r.nu,.int .i64 x.r.st,.string x.r.h.nm,.int .u8 x.r.h.su,.int .u8 x.r.h.kd,.int .i64 x.r.h.co,.int .i64 x.r.h.po,.int .i64 x.r.h.he,.int .u16 x.r.h.tr,.bool x.r.h.tk,x.u]
theorem rp (x:Rv):∀ v∈rvc x,v.oneCell'=true:=fun v h=>by
 simp only[rvc,List.mem_cons,List.not_mem_nil,or_false] at h
 rcases h with h | h | h | h | h | h | h | h | h | h | h <;> (subst h;rfl)
def rvR:aB Rv:=⟨11,rvc,fun _=>rfl,rp,by decide⟩
theorem eK {w:World} {g o:Nat} {x:Rv} (h:w.rangeAt g o (rvc x)):w.cell? ⟨g,o,none⟩=some (.int .i64 x.r.nu)∧w.cell? ⟨g,o+1,none⟩=some (.int .i64 x.r.st)∧w.cell? ⟨g,o+2,none⟩=some (.string x.r.h.nm)∧w.cell? ⟨g,o+3,none⟩=some (.int .u8 x.r.h.su)∧w.cell? ⟨g,o+4,none⟩=some (.int .u8 x.r.h.kd)∧w.cell? ⟨g,o+5,none⟩=some (.int .i64 x.r.h.co)∧w.cell? ⟨g,o+6,none⟩=some (.int .i64 x.r.h.po)∧w.cell? ⟨g,o+7,none⟩=some (.int .i64 x.r.h.he)∧w.cell? ⟨g,o+8,none⟩=some (.int .u16 x.r.h.tr)∧w.cell? ⟨g,o+9,none⟩=some (.bool x.r.h.tk)∧w.cell? ⟨g,o+10,none⟩=some (x.u) :=
 ⟨h 0 _ rfl,h 1 _ rfl,h 2 _ rfl,h 3 _ rfl,h 4 _ rfl,h 5 _ rfl,h 6 _ rfl,h 7 _ rfl,h 8 _ rfl,h 9 _ rfl,h 10 _ rfl⟩
def tbv (vr vf:Value):Value:=.agg #[vr,vf]
def TbB (w:World) (g:Nat) (vr vf:Value):Prop:=w.heap[g]?=some (.cells #[vr,vf] 125 (0,0))
theorem bH {w:World} {g:Nat} {vr vf:Value} (h:TbB w g vr vf):w.cell? ⟨g,0,none⟩=some vr∧w.cell? ⟨g,1,none⟩=some vf:=⟨(ae h 0).trans rfl,(ae h 1).trans rfl⟩
structure dS (w:World) (vr vf:Value) (X:List Rv) (F:List Fe):Prop where
 rows:rvR.At w vr X
 parts:∀ x∈X,bY w x.u x.r.ps∧x.r.ps.length≤4
 fs:feR.At w vf F
 len:F.length=X.length
 few:X.length≤16
theorem dS.keep {w w':World} {vr vf:Value} {X:List Rv} {F:List Fe} (h:dS w vr vf X F) (g:w.grownBy w' none):dS w' vr vf X F:=⟨h.rows.keep g,fun x hx=>⟨(h.parts x hx).1.keep g,(h.parts x hx).2⟩,h.fs.keep g,h.len,h.few⟩
theorem dS.row {w:World} {vr vf:Value} {X:List Rv} {F:List Fe} (h:dS w vr vf X F) {i:Nat} (hi:i<X.length):∃ g off cap,vr=.slice (some ⟨g,off,none⟩) X.length cap∧w.rangeAt g (off+i*11) (rvc X[i]):=h.rows.there hi
theorem dS.fe {w:World} {vr vf:Value} {X:List Rv} {F:List Fe} (h:dS w vr vf X F) {i:Nat} (hi:i<X.length):∃ g off cap,vf=.slice (some ⟨g,off,none⟩) F.length cap∧w.rangeAt g (off+i*5) (fec (F.getD i Fe.none)):=by
 have hi':i<F.length:=by rw[h.len];exact hi
 have:=h.fs.there hi'
 rw[show F.getD i Fe.none=F[i] from by rw[List.getD_eq_getElem?_getD,List.getElem?_eq_getElem hi'];rfl]
 exact this
def gy (wh:Pt) (own:Bool) (f:Fe) (ho:Int):Bool :=
 if wh.wm=5 then decide (f.ho=ho)
 else if wh.wm=8 then decide (f.ho=ho) && !own
 else if wh.wm=6 then !decide (f.ho=ho)
 else if wh.wm=7 then true
 else if wh.wm=9 then decide (f.su=wh.su)
 else if wh.wm=10 then jZ f.tr wh.tr
 else false
def fL (wh:Pt) (own u:Bool) (f:Fe) (ho:Int):Bool:=if wh.wm=4 then own else if u=false then false else gy wh own f ho
theorem tl {wh:Pt} {own:Bool} {f:Fe} {ho:Int} (h:¬wh.wm=4):fL wh own true f ho=gy wh own f ho:=by unfold fL;rw[if_neg h,if_neg (by simp)]
theorem xz (wh:Pt) (own:Bool) (kd:Int) (f:Fe) (ho:Int):cR wh own kd f ho=fL wh own (decide (kd=1)) f ho:=by
 unfold cR fL gy
 by_cases h:wh.wm=4
 ·simp only[if_pos h]
 ·simp only[if_neg h]
  by_cases k:kd=1 <;> simp[k]
set_option maxRecDepth 100000
set_option maxHeartbeats 4000000
theorem ch {a b:Bool} (h:a=b):Ending.returned (.bool a)=Ending.returned (.bool b):=by rw[h]
theorem ju {a b:World} {c:Nat} (h:a.grownBy b none) (hc:a.heap.size≤c) (v0 v1 v2 v3 v4 v5 v6:Value):a.grownBy (((((((b.setCell ⟨c,0,none⟩ v0).setCell ⟨c,1,none⟩ v1).setCell ⟨c,2,none⟩ v2).setCell ⟨c,3,none⟩ v3).setCell ⟨c,4,none⟩ v4).setCell ⟨c,5,none⟩ v5).setCell ⟨c,6,none⟩ v6) none:=az h (((((((aw _ _ _ _).trans (aw _ _ _ _)).trans (aw _ _ _ _)).trans (aw _ _ _ _)).trans (aw _ _ _ _)).trans (aw _ _ _ _)).trans (aw _ _ _ _)) (fun y e=>by cases e;exact hc)
theorem jK (a b:Int):(a == b)=decide (a=b):=by rw[Bool.eq_iff_iff];simp
theorem AB (a b:Int):(a != b)=!decide (a=b):=by rw[Bool.eq_iff_iff];simp
theorem Am (a b:Nat):((a:Int) == (b:Int))=decide (a=b):=by rw[Bool.eq_iff_iff];simp;omega
def cdv (f:Fe) (u o:Bool):Value:=.agg #[.int .i64 f.ho,.int .u8 f.su,.int .u16 f.tr,.int .i64 f.po,.int .i64 f.he,.bool u,.bool o]
def CdB (w:World) (g:Nat) (f:Fe) (u o:Bool):Prop:=w.heap[g]?=some (.cells #[.int .i64 f.ho,.int .u8 f.su,.int .u16 f.tr,.int .i64 f.po,.int .i64 f.he,.bool u,.bool o] 302 (0,0))
theorem uD {w:World} {g:Nat} {f:Fe} {u o:Bool} (h:CdB w g f u o):w.cell? ⟨g,0,none⟩=some (.int .i64 f.ho)∧w.cell? ⟨g,1,none⟩=some (.int .u8 f.su)∧w.cell? ⟨g,2,none⟩=some (.int .u16 f.tr)∧w.cell? ⟨g,3,none⟩=some (.int .i64 f.po)∧w.cell? ⟨g,4,none⟩=some (.int .i64 f.he)∧w.cell? ⟨g,5,none⟩=some (.bool u)∧w.cell? ⟨g,6,none⟩=some (.bool o) :=
 ⟨(ae h 0).trans rfl,(ae h 1).trans rfl,(ae h 2).trans rfl,(ae h 3).trans rfl,(ae h 4).trans rfl,(ae h 5).trans rfl,(ae h 6).trans rfl⟩
def PqB (w:World) (n:Nat) (p:Pt):Prop:=w.heap[n]?=some (.cells #[.int .u8 p.wn,.int .u8 p.vb,.int .u8 p.wm,.int .i64 p.ct,.int .u8 p.su,.int .u8 p.tr,.int .u8 p.mr,.string p.nm] 62 (0,0))
theorem zK {w:World} {g:Nat} {p:Pt} (h:PqB w g p):w.cell? ⟨g,0,none⟩=some (.int .u8 p.wn)∧w.cell? ⟨g,1,none⟩=some (.int .u8 p.vb)∧w.cell? ⟨g,2,none⟩=some (.int .u8 p.wm)∧w.cell? ⟨g,3,none⟩=some (.int .i64 p.ct)∧w.cell? ⟨g,4,none⟩=some (.int .u8 p.su)∧w.cell? ⟨g,5,none⟩=some (.int .u8 p.tr)∧w.cell? ⟨g,6,none⟩=some (.int .u8 p.mr)∧w.cell? ⟨g,7,none⟩=some (.string p.nm) :=
 ⟨(ae h 0).trans rfl,(ae h 1).trans rfl,(ae h 2).trans rfl,(ae h 3).trans rfl,(ae h 4).trans rfl,(ae h 5).trans rfl,(ae h 6).trans rfl,(ae h 7).trans rfl⟩
theorem ub (p:Pt) (ho:Int) (f:Fe) (u o:Bool) (w:World):Calls Tryz.prog 272 #[pv p,.int .i64 ho,cdv f u o] w fun e w'=>e=.returned (.bool (gy p o f ho))∧w.grownBy w' none:=by
 obtain⟨W1,hW1⟩:∃ W1,W1=(w.alloc (.cells #[.int .u8 p.wn,.int .u8 p.vb,.int .u8 p.wm,.int .i64 p.ct,.int .u8 p.su,.int .u8 p.tr,.int .u8 p.mr,.string p.nm] 62)).alloc (.cells #[.int .i64 f.ho,.int .u8 f.su,.int .u16 f.tr,.int .i64 f.po,.int .i64 f.he,.bool u,.bool o] 302):=⟨_,rfl⟩
 have HG1:Hid (w.grownBy W1 none):=by rw[hW1];exact am (World.grownBy_alloc _ _ none) _
 have HP:Hid (PqB W1 w.heap.size p):=by rw[hW1];exact ai (World.grownBy_alloc _ _ none) (ak w _ _) (by simp)
 have HC:Hid (CdB W1 (w.heap.size+1) f u o):=by rw[hW1];exact aL _ _ _ _
 unfold pv cdv
 go_enter Tryz.func272,Tryz.ntmps272
 go_upto_region 1 with fail
 rw[←hW1]
 clear hW1
 obtain⟨n0,h0⟩:∃ n0,n0=w.heap.size:=⟨_,rfl⟩
 simp only[←h0] at HP HC ⊢
 obtain⟨n1,h1⟩:∃ n1,n1=n0+1:=⟨_,rfl⟩
 simp only[←h1] at HC ⊢
 clear h0 h1
 obtain⟨p0,p1,u4,p3,u6,u7,p6,p7⟩:=zK HP.out
 obtain⟨q0,q1,q2,q3,q4,q5,q6⟩:=uD HC.out
 clear p0 p1 p3 p6 p7 q3 q4 q5
 by_cases d5:p.wm=5
 ·have HY:Hid (gy p o f ho=(f.ho == ho)):=by show _=_;unfold gy;rw[if_pos d5];rw[jK]
  rw[d5] at u4
  clear d5
  go_wp2
  go_ret
  exact⟨ch HY.out.symm,HG1.out⟩
 by_cases d8:p.wm=8
 ·cases ho1:(f.ho == ho) with
  | true =>
   have hb:f.ho=ho:=by simpa using ho1
   have HY:Hid (gy p o f ho=(!o)):=by show _=_;unfold gy;rw[if_neg d5,if_pos d8];simp[hb]
   rw[d8] at u4
   clear hb d5 d8
   go_wp2
   go_ret
   exact⟨ch HY.out.symm,HG1.out⟩
  | false =>
   have hb:¬f.ho=ho:=by simpa using ho1
   have HY:Hid (gy p o f ho=false):=by show _=_;unfold gy;rw[if_neg d5,if_pos d8];simp[hb]
   rw[d8] at u4
   clear hb d5 d8
   go_wp2
   go_ret
   exact⟨ch HY.out.symm,HG1.out⟩
 by_cases d6:p.wm=6
 ·have HY:Hid (gy p o f ho=(f.ho != ho)):=by show _=_;unfold gy;rw[if_neg d5,if_neg d8,if_pos d6];rw[AB]
  rw[d6] at u4
  clear d5 d8 d6
  go_wp2
  go_ret
  exact⟨ch HY.out.symm,HG1.out⟩
 by_cases d7:p.wm=7
 ·have HY:Hid (gy p o f ho=true):=by show _=_;unfold gy;rw[if_neg d5,if_neg d8,if_neg d6,if_pos d7]
  rw[d7] at u4
  clear d5 d8 d6 d7
  go_wp2
  go_ret
  exact⟨ch HY.out.symm,HG1.out⟩
 by_cases d9:p.wm=9
 ·have HY:Hid (gy p o f ho=(f.su == p.su)):=by show _=_;unfold gy;rw[if_neg d5,if_neg d8,if_neg d6,if_neg d7,if_pos d9];rw[jK]
  rw[d9] at u4
  clear d5 d8 d6 d7 d9
  go_wp2
  go_ret
  exact⟨ch HY.out.symm,HG1.out⟩
 by_cases d10:p.wm=10
 ·have HY:Hid (gy p o f ho=(jZ f.tr p.tr)):=by show _=_;unfold gy;rw[if_neg d5,if_neg d8,if_neg d6,if_neg d7,if_neg d9,if_pos d10]
  rw[d10] at u4
  clear d5 d8 d6 d7 d9 d10
  go_wp2_with (go_at_call 212;refine(vz _ _ _).mono ?_;rintro e3 w3 ⟨rfl,rfl⟩)
  go_ret
  exact⟨ch HY.out.symm,HG1.out⟩
 have HY:Hid (gy p o f ho=false):=by show _=_;unfold gy;rw[if_neg d5,if_neg d8,if_neg d6,if_neg d7,if_neg d9,if_neg d10]
 have k5:(p.wm == 5)=false:=by simpa using d5
 have k8:(p.wm == 8)=false:=by simpa using d8
 have k6:(p.wm == 6)=false:=by simpa using d6
 have k7:(p.wm == 7)=false:=by simpa using d7
 have k9:(p.wm == 9)=false:=by simpa using d9
 have k10:(p.wm == 10)=false:=by simpa using d10
 clear d5 d8 d6 d7 d9 d10
 go_wp2
 go_ret
 exact⟨ch HY.out.symm,HG1.out⟩
theorem uB (p:Pt) (ho:Int) (f:Fe) (u o:Bool) (w:World):Calls Tryz.prog 236 #[pv p,.int .i64 ho,cdv f u o] w fun e w'=>e=.returned (.bool (fL p o u f ho))∧w.grownBy w' none:=by
 have hU:=fun W=>ub p ho f u o W
 obtain⟨W1,hW1⟩:∃ W1,W1=(w.alloc (.cells #[.int .u8 p.wn,.int .u8 p.vb,.int .u8 p.wm,.int .i64 p.ct,.int .u8 p.su,.int .u8 p.tr,.int .u8 p.mr,.string p.nm] 62)).alloc (.cells #[.int .i64 f.ho,.int .u8 f.su,.int .u16 f.tr,.int .i64 f.po,.int .i64 f.he,.bool u,.bool o] 302):=⟨_,rfl⟩
 have HG1:Hid (w.grownBy W1 none):=by rw[hW1];exact am (World.grownBy_alloc _ _ none) _
 have HP:Hid (PqB W1 w.heap.size p):=by rw[hW1];exact ai (World.grownBy_alloc _ _ none) (ak w _ _) (by simp)
 have HC:Hid (CdB W1 (w.heap.size+1) f u o):=by rw[hW1];exact aL _ _ _ _
 unfold pv cdv
 go_enter Tryz.func236,Tryz.ntmps236
 go_upto_region 1 with fail
 rw[←hW1]
 clear hW1
 obtain⟨n0,h0⟩:∃ n0,n0=w.heap.size:=⟨_,rfl⟩
 simp only[←h0] at HP HC ⊢
 obtain⟨n1,h1⟩:∃ n1,n1=n0+1:=⟨_,rfl⟩
 simp only[←h1] at HC ⊢
 clear h0 h1
 unfold pv cdv at hU
 obtain⟨p0,p1,u4,p3,u6,u7,p6,p7⟩:=zK HP.out
 obtain⟨q0,q1,q2,q3,q4,q5,q6⟩:=uD HC.out
 by_cases d4:p.wm=4
 ·have HY:Hid (fL p o u f ho=o):=by show _=_;unfold fL;rw[if_pos d4]
  rw[d4] at u4
  clear d4 hU
  go_wp2
  go_ret
  exact⟨ch HY.out.symm,HG1.out⟩
 have k4:(p.wm == 4)=false:=by simpa using d4
 cases u with
 | false =>
  have HY:Hid (fL p o false f ho=false):=by show _=_;unfold fL;rw[if_neg d4,if_pos rfl]
  clear d4 hU
  go_wp2
  go_ret
  exact⟨ch HY.out.symm,HG1.out⟩
 | true =>
  have HY:Hid (fL p o true f ho=gy p o f ho):=tl d4
  clear d4
  go_wp2_with (go_at_call 272;refine(hU _).mono ?_;rintro e3 w3 ⟨rfl,g3⟩;have HG3:Hid (W1.grownBy w3 none):=g3)
  go_ret
  exact⟨ch HY.out.symm,aa HG1.out HG3.out⟩
theorem rG (vr vf:Value) (X:List Rv) (F:List Fe) (e:Se) (i:Nat) (w:World) (T:dS w vr vf X F) (hi:i<X.length) (hr:e.ro<X.length):Calls Tryz.prog 214 #[tbv vr vf,sev e,.int .i64 (i:Int)] w fun e' w'=>e'=.returned (.bool (di (rws X) F e i))∧w.grownBy w' none:=by
 obtain⟨gr,rof,rcap,rfl,Rr⟩:=T.row hi
 obtain⟨gf,fof,fcap,e1,Rf⟩:=T.fe hi
 obtain⟨gf',fof',fcap',e2,Rh⟩:=T.fe hr
 rw[e1] at e2
 cases e2
 subst e1
 have hl:F.length=X.length:=T.len
 have h16:X.length≤16:=T.few
 have HEx:Hid (di (rws X) F e i=fL e.s.wh ((i:Int) == (e.ro:Int)) (X[i].r.h.kd == 1) (F.getD i Fe.none) (F.getD e.ro Fe.none).ho):=by show di _ _ _ _=_;unfold di;rw[fA hi,xz,Am,jK]
 obtain⟨f,hf⟩:∃ f,f=F.getD i Fe.none:=⟨_,rfl⟩
 obtain⟨ho,hho⟩:∃ ho,ho=(F.getD e.ro Fe.none).ho:=⟨_,rfl⟩
 obtain⟨x,hx⟩:∃ x,x=X[i]:=⟨_,rfl⟩
 rw[←hf,←hho,←hx] at HEx
 rw[←hf] at Rf
 rw[←hx] at Rr
 obtain⟨W1,hW1⟩:∃ W1,W1=(w.alloc (.cells #[.slice (some ⟨gr,rof,none⟩) X.length rcap,.slice (some ⟨gf,fof,none⟩) F.length fcap] 125)).alloc (.cells #[.int .i64 e.s.th,.int .i64 e.s.pl,.int .u8 e.s.wh.wn,.int .u8 e.s.wh.vb,.int .u8 e.s.wh.wm,.int .i64 e.s.wh.ct,.int .u8 e.s.wh.su,.int .u8 e.s.wh.tr,.int .u8 e.s.wh.mr,.string e.s.wh.nm,.int .i64 (e.ro:Int)] 131):=⟨_,rfl⟩
 have HG1:Hid (w.grownBy W1 none):=by rw[hW1];exact am (World.grownBy_alloc _ _ none) _
 have HB:Hid (TbB W1 w.heap.size (.slice (some ⟨gr,rof,none⟩) X.length rcap) (.slice (some ⟨gf,fof,none⟩) F.length fcap)):=by rw[hW1];exact ai (World.grownBy_alloc _ _ none) (ak w _ _) (by simp)
 have HS:Hid (SeB W1 (w.heap.size+1) e):=by rw[hW1];exact aL _ _ _ _
 have HRr:Hid (W1.rangeAt gr (rof+i*11) (rvc x)):=ba Rr HG1.out
 have HRf:Hid (W1.rangeAt gf (fof+i*5) (fec f)):=ba Rf HG1.out
 have HRh:Hid (W1.rangeAt gf (fof+e.ro*5) (fec (F.getD e.ro Fe.none))):=ba Rh HG1.out
 have hi':(i:Int)<X.length:=by omega
 have hr':(e.ro:Int)<X.length:=by omega
 have hif:(i:Int)<F.length:=by omega
 have hrf:(e.ro:Int)<F.length:=by omega
 have Hho:Hid (ho=(F.getD e.ro Fe.none).ho):=hho
 have hU:=fun W=>uB e.s.wh ho f (x.r.h.kd == 1) ((i:Int) == (e.ro:Int)) W
 unfold pv cdv at hU
 unfold tbv sev
 clear T Rr Rf Rh hf hho hx hi hr hl h16
 go_enter Tryz.func214,Tryz.ntmps214
 go_upto_region 1 with fail
 rw[←hW1]
 clear hW1
 obtain⟨n0,h0⟩:∃ n0,n0=w.heap.size:=⟨_,rfl⟩
 simp only[←h0] at HB HS ⊢
 obtain⟨n1,h1⟩:∃ n1,n1=n0+1:=⟨_,rfl⟩
 simp only[←h1] at HS ⊢
 clear h0 h1
 obtain⟨b0,b1⟩:=bH HB.out
 obtain⟨s0,s1,s2,s3,s4,s5,s6,s7,s8,s9,s10⟩:=dU HS.out
 obtain⟨r0,r1,r2,r3,r4,r5,r6,r7,r8,r9,r10⟩:=eK HRr.out
 obtain⟨f0,f1,f2,f3,f4⟩:=bJ HRf.out
 have g0:=(bJ HRh.out).1
 rw[←Hho.out] at g0
 clear r0 r1 r2 r3 r5 r6 r7 r8 r9 r10
 refine wp_region_held_drew (S:=fun w'=>W1.grownBy w' none) (by kernel_rfl) (ag _) (fun hHeld=>?_)
 refine QZ 0 rfl ?_
 go_frame
 refine QT 1 rfl (by intro w0 hSw;have b1:=hSw.cell b1 (by simp);go_simp;try with_reducible rfl) ?_
 go_frame
 refine QZ 2 rfl ?_
 go_frame
 refine QZ 3 rfl ?_
 go_frame
 refine QT 4 rfl (by intro w0 hSw;have f0:=hSw.cell f0 (by simp);have f1:=hSw.cell f1 (by simp);have f2:=hSw.cell f2 (by simp);have f3:=hSw.cell f3 (by simp);have f4:=hSw.cell f4 (by simp);go_simp;try with_reducible rfl) ?_
 go_frame
 refine QZ 5 rfl ?_
 go_frame
 refine QT 6 rfl (by intro w0 hSw;have b0:=hSw.cell b0 (by simp);go_simp;try with_reducible rfl) ?_
 go_frame
 refine QZ 7 rfl ?_
 go_frame
 refine QZ 8 rfl ?_
 go_frame
 refine QZ 9 rfl ?_
 go_frame
 refine QZ 10 rfl ?_
 go_frame
 refine QT 11 rfl (by intro w0 hSw;have r4:=hSw.cell r4 (by simp);go_simp;try with_reducible rfl) ?_
 go_frame
 refine QZ 12 rfl ?_
 go_frame
 refine QZ 13 rfl ?_
 go_frame
 refine QZ 14 rfl ?_
 go_frame
 refine QT 15 rfl (by intro w0 hSw;have s10:=hSw.cell s10 (by simp);go_simp;try with_reducible rfl) ?_
 go_frame
 refine QZ 16 rfl ?_
 go_frame
 refine QZ 17 rfl ?_
 go_frame
 refine QR 18 rfl (fun K9 hK=>?_)
 go_simp
 refine hK.out _ _ (aa (am (ay _ _) _) (ag _)) (fun hHeld3=>?_)
 clear hK K9
 (try go_frame)
 obtain⟨V1,hV1⟩:∃ V1,V1=(W1.alloc (.cells #[.int .i64 0,.int .u8 0,.int .u16 0,.int .i64 0,.int .i64 0,.bool false,.bool false] 302)).drew:=⟨_,rfl⟩
 rw[←hV1] at hHeld3 ⊢
 have HB1:Hid (V1.heap[W1.heap.size]?=some (.cells #[.int .i64 0,.int .u8 0,.int .u16 0,.int .i64 0,.int .i64 0,.bool false,.bool false] 302 (0,0))):=by rw[hV1];exact ak W1 _ _
 have HGV:Hid (W1.grownBy V1 none):=hHeld3
 obtain⟨n2,h2⟩:∃ n2,n2=W1.heap.size:=⟨_,rfl⟩
 have Hn2:Hid (W1.heap.size≤n2∧w.heap.size≤n2):=by have:=HG1.out.size;show _∧_;omega
 rw[←h2] at HB1 ⊢
 clear hV1 h2
 have z0:=(ae HB1.out 0).trans (show _=some (.int .i64 0) from rfl)
 have z1:=(ae HB1.out 1).trans (show _=some (.int .u8 0) from rfl)
 have z2:=(ae HB1.out 2).trans (show _=some (.int .u16 0) from rfl)
 have z3:=(ae HB1.out 3).trans (show _=some (.int .i64 0) from rfl)
 have z4:=(ae HB1.out 4).trans (show _=some (.int .i64 0) from rfl)
 have z5:=(ae HB1.out 5).trans (show _=some (.bool false) from rfl)
 have z6:=(ae HB1.out 6).trans (show _=some (.bool false) from rfl)
 have zf:=fun i=>aA HB1.out i
 refine QR 19 rfl (fun K9 hK=>?_)
 go_simp
 refine hK.out _ _ (ju HGV.out Hn2.out.1 _ _ _ _ _ _ _) (fun hHeld3=>?_)
 clear hK K9
 (try go_frame)
 refine QD ?_
 obtain⟨u,hu⟩:∃ u,u=(x.r.h.kd == 1):=⟨_,rfl⟩
 obtain⟨o,ho'⟩:∃ o,o=((i:Int) == (e.ro:Int)):=⟨_,rfl⟩
 rw[←hu,←ho'] at HEx
 simp only[←hu,←ho'] at hU ⊢
 clear hu ho'
 obtain⟨V,hV⟩:∃ V,V=((((((V1.setCell ⟨n2,0,none⟩ (.int .i64 f.ho)).setCell ⟨n2,1,none⟩ (.int .u8 f.su)).setCell ⟨n2,2,none⟩ (.int .u16 f.tr)).setCell ⟨n2,3,none⟩ (.int .i64 f.po)).setCell ⟨n2,4,none⟩ (.int .i64 f.he)).setCell ⟨n2,5,none⟩ (.bool u)).setCell ⟨n2,6,none⟩ (.bool o):=⟨_,rfl⟩
 rw[←hV]
 have HG:Hid (w.grownBy V none):=by rw[hV];exact aa HG1.out (ju HGV.out Hn2.out.1 _ _ _ _ _ _ _)
 have HG':W1.grownBy V none:=by rw[hV];exact ju HGV.out Hn2.out.1 _ _ _ _ _ _ _
 have HB2:Hid (CdB V n2 f u o):=by rw[hV];exact aF (aF (aF (aF (aF (aF (aF HB1.out 0 _) 1 _) 2 _) 3 _) 4 _) 5 _) 6 _
 have v2:=HG'.cell s2 (by simp)
 have v3:=HG'.cell s3 (by simp)
 have v4:=HG'.cell s4 (by simp)
 have v5:=HG'.cell s5 (by simp)
 have v6:=HG'.cell s6 (by simp)
 have v7:=HG'.cell s7 (by simp)
 have v8:=HG'.cell s8 (by simp)
 have v9:=HG'.cell s9 (by simp)
 have v10:=HG'.cell s10 (by simp)
 have y1:=HG'.cell b1 (by simp)
 have y0:=HG'.cell g0 (by simp)
 obtain⟨q0,q1,q2,q3,q4,q5,q6⟩:=uD HB2.out
 clear hV hHeld hHeld3 HG' s0 s1 s2 s3 s4 s5 s6 s7 s8 s9 s10 z0 z1 z2 z3 z4 z5 z6 zf f0 f1 f2 f3 f4 g0 b0 b1 r4 HB1 HGV
 go_upto_region 2 with fail
 refine wp_region_held_drew (S:=fun w'=>V.grownBy w' none) (by kernel_rfl) (ag _) (fun hHeld=>?_)
 refine QZ 0 rfl ?_
 go_frame
 refine QZ 1 rfl ?_
 go_frame
 refine QT 2 rfl (by intro w0 hSw;have v2:=hSw.cell v2 (by simp);have v3:=hSw.cell v3 (by simp);have v4:=hSw.cell v4 (by simp);have v5:=hSw.cell v5 (by simp);have v6:=hSw.cell v6 (by simp);have v7:=hSw.cell v7 (by simp);have v8:=hSw.cell v8 (by simp);have v9:=hSw.cell v9 (by simp);go_simp;try with_reducible rfl) ?_
 go_frame
 refine QZ 3 rfl ?_
 go_frame
 refine QT 4 rfl (by intro w0 hSw;have y1:=hSw.cell y1 (by simp);go_simp;try with_reducible rfl) ?_
 go_frame
 refine QZ 5 rfl ?_
 go_frame
 refine QT 6 rfl (by intro w0 hSw;have v10:=hSw.cell v10 (by simp);go_simp;try with_reducible rfl) ?_
 go_frame
 refine QZ 7 rfl ?_
 go_frame
 refine QZ 8 rfl ?_
 go_frame
 refine QT 9 rfl (by intro w0 hSw;have y0:=hSw.cell y0 (by simp);go_simp;try with_reducible rfl) ?_
 go_frame
 refine QT 10 rfl (by intro w0 hSw;have q0:=hSw.cell q0 (by simp);have q1:=hSw.cell q1 (by simp);have q2:=hSw.cell q2 (by simp);have q3:=hSw.cell q3 (by simp);have q4:=hSw.cell q4 (by simp);have q5:=hSw.cell q5 (by simp);have q6:=hSw.cell q6 (by simp);go_simp;try with_reducible rfl) ?_
 go_frame
 refine QR 11 rfl (fun K hK=>?_)
 go_simp
 go_at_call 236
 refine(hU _).mono ?_
 rintro e3 w3 ⟨rfl,g3⟩
 refine hK.out _ _ (aa (ag _) g3) (fun hHeld2=>?_)
 clear hK K
 (try go_frame)
 refine QZ 12 rfl ?_
 go_frame
 refine QD ?_
 go_wp2_with fail
 go_ret
 exact⟨ch HEx.out.symm,aa HG.out hHeld2⟩
end Go.Proofs.YtjmepebbcnhalaaGreat
