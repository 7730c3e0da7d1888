import Derived.Test.YtjmepebbcnhalaaGreatV44
namespace Go.Proofs.YtjmepebbcnhalaaGreat
set_option maxRecDepth 100000
set_option maxHeartbeats 4000000
open Go.RowKit Go.Shelf
variable {w w' W:World} {bp:Option Addr} {vt vp vf v:Value} {k r n x:Int} {g B base size:Nat} {fs:List Fe} {xs:List Value} {cd:Int→Hd×List Pt} {ts:List Th} {pf:Th→Fe} {mf:Fe→Th→Fe} {me:Th→Int} {R:List Rw} {cs:Array Value}
structure ClB (w:World) (gk gf gs:Nat) (bp:Option Addr) (vt vp:Value) (k:Int) (vf:Value):Prop where
 kb:w.heap[gk]?=some (.cells #[.int .i64 k] 3 (0,0))
 fb:w.heap[gf]?=some (.cells #[vf] 27 (0,0))
 sb:ScB w gs bp vt vp
theorem ClB.keep {gk gf gs:Nat} (h:ClB w gk gf gs bp vt vp k vf) (g:w.grownBy w' none):ClB w' gk gf gs bp vt vp k vf:=⟨ag g h.kb (by simp),ag g h.fb (by simp),ag g h.sb (by simp)⟩
def FlB (w:World) (g:Nat) (a b c:Value):Prop:=w.heap[g]?=some (.cells #[a,b,c] 165 (0,0))
theorem mH {a b c:Value} (h:FlB w g a b c):w.cell? ⟨g,0,none⟩=some a∧w.cell? ⟨g,1,none⟩=some b∧w.cell? ⟨g,2,none⟩=some c:=⟨(aa h 0).trans rfl,(aa h 1).trans rfl,(aa h 2).trans rfl⟩
theorem Ex {a b c x y:Value} (h:FlB w g a b c):FlB ((w.setCell ⟨g,2,none⟩ x).setCell ⟨g,1,none⟩ y) g a y x:=by
 have h1:=aC h 2 x
 exact aC h1 1 y
theorem DA {gs:Nat} (h:ScB W gs bp vt vp) (k:Int) (vf:Value):ClB ((W.alloc (.cells #[.int .i64 k] 3)).alloc (.cells #[vf] 27)) W.heap.size (W.heap.size+1) gs bp vt vp k vf:=⟨jh _ _ _ _ _,aO _ _ _ _,ag (al QG _) h (by simp)⟩
theorem D7 {gs:Nat} (h:ScB W gs bp vt vp) (k:Int) (vf:Value):ClB ((W.alloc (.cells #[vf] 27)).alloc (.cells #[.int .i64 k] 3)) (W.heap.size+1) W.heap.size gs bp vt vp k vf:=⟨aO _ _ _ _,jh _ _ _ _ _,ag (al QG _) h (by simp)⟩
def clV (gk gf gs:Nat):Value:=.func (.func 156) #[] #[.pointer (some ⟨gk,0,none⟩),.pointer (some ⟨gf,0,none⟩),.pointer (some ⟨gs,0,none⟩)]
theorem iy (bp pt pp:Option Addr) (nt ct np cp:Nat) (w:World):Calls Tryz.prog 88 #[.agg #[.pointer bp,.slice pt nt ct,.slice pp np cp]] w fun e w'=>∃ gk gf gs,e=.returned (clV gk gf gs)∧ClB w' gk gf gs bp (.slice pt nt ct) (.slice pp np cp) 0 (.slice pp np cp)∧w.grownBy w' none∧w.heap.size≤gk∧w.heap.size≤gf:=by
 have hmf:∀ (fn:Fn) (first cap:Array Value) (w:World),(Instr.makeFunc fn first cap).run Tryz.prog w=.ok (.func fn first cap) w:=fun _ _ _ _=>rfl
 obtain⟨W1,hW1⟩:=Qe (w.alloc (.cells #[.pointer bp,.slice pt nt ct,.slice pp np cp] 159))
 have HG1:Hid (w.grownBy W1 none):=by rw[hW1];exact QG
 have HS1:Hid (ScB W1 w.heap.size bp (.slice pt nt ct) (.slice pp np cp)):=by rw[hW1];exact ak _ _ _
 unfold clV
 go_enter Tryz.func88,Tryz.ntmps88
 go_upto_region 1 with fail
 rw[←hW1]
 clear hW1
 obtain⟨n0,hn0⟩:=Qe (w.heap.size)
 simp only[←hn0] at HS1 ⊢
 have Hn0:Hid (n0=w.heap.size∧w.heap.size≤W1.heap.size):=⟨hn0,HG1.out.size⟩
 clear hn0
 obtain⟨s0,s1,s2⟩:=eo HS1.out
 have a1:∀ o,(W1.alloc o).cell? ⟨n0,2,none⟩=some (.slice pp np cp):=fun o=>(World.grownBy_alloc W1 o none).cell s2 (by simp)
 have a2:∀ o o',((W1.alloc o).alloc o').cell? ⟨n0,2,none⟩=some (.slice pp np cp):=fun o o'=>(World.grownBy_alloc (W1.alloc o) o' none).cell (a1 o) (by simp)
 go_region
 all_goals (try go_wp2_with fail)
 ·go_ret
  exact⟨_,_,_,rfl,ClB.keep (DA HS1.out _ _) (ai _),ae (ae HG1.out (al QG _)) (ai _),by have:=Hn0.out.2;omega,by have:=Hn0.out.2;omega⟩
 ·go_ret
  exact⟨_,_,_,rfl,ClB.keep (D7 HS1.out _ _) (ai _),ae (ae HG1.out (al QG _)) (ai _),by have:=Hn0.out.2;omega,by have:=Hn0.out.2;omega⟩
structure ClS (w0 w:World) (B gk gf gs:Nat) (bp:Option Addr) (vt vp:Value) (k:Int) (vf:Value) (fs:List Fe):Prop where
 cl:ClB w gk gf gs bp vt vp k vf
 fo:aQ w B vf fs
 gr:w0.grownBy w none
 hk:w0.heap.size≤gk
 hf:w0.heap.size≤gf
theorem ClS.keep {w0:World} {gk gf gs:Nat} (h:ClS w0 w B gk gf gs bp vt vp k vf fs) (g:w.grownBy w' none):ClS w0 w' B gk gf gs bp vt vp k vf fs:=⟨h.cl.keep g,aw h.fo g,ae h.gr g,h.hk,h.hf⟩
def Twv (w w':World) (gk gf:Nat):Prop:=∀ x,x<w.heap.size→x≠gk→x≠gf→w'.heap[x]?=w.heap[x]?
theorem Twv.own {gk gf gs:Nat} {e n:Nat} (h:Twv w w' gk gf) (c:ClB w gk gf gs bp vt vp k vf) (o:w.ownsRow base e size v n xs) (h3:(3:Nat)≠e) (hs:27≠e):w'.ownsRow base e size v n xs:=by
 obtain⟨hl,q⟩:=o
 refine⟨hl,?_⟩
 rcases q with q | ⟨g,cap,cur,e1,hb,hh,h4,h5,h6,h7⟩
 ·exact Or.inl q
 ·refine Or.inr ⟨g,cap,cur,e1,hb,?_,h4,h5,h6,h7⟩
  have hg:g<w.heap.size:=(Array.getElem?_eq_some_iff.1 hh).1
  rw[h g hg (fun z=>by rw[z,c.kb] at hh;simp at hh;exact h3 hh.2) (fun z=>by rw[z,c.fb] at hh;simp at hh;exact hs hh.2)]
  exact hh
def qH (w0 w:World) (B gk gf gs:Nat) (bp:Option Addr) (vt vp:Value) (k:Int) (vf:Value) (fs:List Fe) (R:List Rw) (e:Ending) (w':World):Prop:=∃ p1 m1 c1 p2 c2,e=.returned (.agg #[vf,.slice p1 m1 c1,.slice p2 fs.length c2])∧ClS w0 w' w.heap.size gk gf gs bp vt vp (k+1) (.slice p2 fs.length c2) (nR R fs (k+1))∧bF w' w.heap.size (.slice p1 m1 c1) ((du R fs (k+1)).2.map Se.s)∧aQ w' B vf fs∧Twv w w' gk gf
theorem jA (bp pt pp:Option Addr) (ct np cp:Nat) (r n:Int) (cd:Int→Hd×List Pt) (ts:List Th) (pf:Th→Fe) (mf:Fe→Th→Fe) (me:Th→Int) (w0 w:World) (B gk gf gs:Nat) (k:Int) (vf:Value) (fs:List Fe) (R:List Rw) (I:VIn w0 (.pointer bp) (.slice pt ts.length ct) r n cd ts pf mf me) (C:ClS w0 w B gk gf gs bp (.slice pt ts.length ct) (.slice pp np cp) k vf fs) (hT:Tab n cd ts fs R) (hr:r=0) (hk0:0≤k) (hk5:k<5):Calls Tryz.prog 156 #[.pointer (some ⟨gk,0,none⟩),.pointer (some ⟨gf,0,none⟩),.pointer (some ⟨gs,0,none⟩)] w (qH w0 w B gk gf gs bp (.slice pt ts.length ct) (.slice pp np cp) k vf fs R):=by
 obtain⟨pf1,cf1,rfl⟩:=az.Own.form C.fo
 obtain⟨k1,hk1⟩:=Qe (k+1)
 have hwk:wrap64 (k+1)=k1:=by rw[hk1];unfold wrap64;omega
 obtain⟨W1,hW1⟩:=Qe (w.alloc (.cells #[.slice none 0 0,.slice none 0 0,.slice none 0 0] 165))
 have HG1:Hid (w.grownBy W1 none):=by rw[hW1];exact QG
 have HR1:Hid (FlB W1 w.heap.size (.slice none 0 0) (.slice none 0 0) (.slice none 0 0)):=by rw[hW1];exact ak _ _ _
 have HC1:Hid (ClS w0 W1 B gk gf gs bp (.slice pt ts.length ct) (.slice pp np cp) k (.slice pf1 fs.length cf1) fs):=C.keep HG1.out
 have Hlt:Hid (gk<w.heap.size∧gf<w.heap.size∧gs<w.heap.size):=⟨aZ C.cl.kb,aZ C.cl.fb,aZ C.cl.sb⟩
 have Hne:Hid (gk≠gf∧gk≠gs∧gf≠gs):=by
  refine⟨fun q=>?_,fun q=>?_,fun q=>?_⟩
  ·have h1:=C.cl.kb;rw[q,C.cl.fb] at h1;simp at h1
  ·have h1:=C.cl.kb;rw[q,C.cl.sb] at h1;simp at h1
  ·have h1:=C.cl.fb;rw[q,C.cl.sb] at h1;simp at h1
 have HI:Hid (VIn w0 (.pointer bp) (.slice pt ts.length ct) r n cd ts pf mf me):=I
 have HT:Hid (Tab n cd ts fs R∧r=0∧1≤k1∧k1≤5):=⟨hT,hr,by omega,by omega⟩
 have Hk1:Hid (k1=k+1):=hk1
 clear I C hT hr hk0 hk5
 go_enter Tryz.func156,Tryz.ntmps156
 go_upto_region 1 with fail
 rw[←hW1]
 clear hW1 hk1
 obtain⟨n0,hn0⟩:=Qe (w.heap.size)
 simp only[←hn0] at HR1 ⊢
 have Hn0:Hid (n0=w.heap.size):=hn0
 clear hn0
 have k0:W1.cell? ⟨gk,0,none⟩=some (.int .i64 k):=(aa HC1.out.cl.kb 0).trans rfl
 have kf:W1.frozen? ⟨gk,0,none⟩=false:=au HC1.out.cl.kb 0
 obtain⟨W2,hW2⟩:=Qe (W1.setCell ⟨gk,0,none⟩ (.int .i64 k1))
 have HG2:Hid (W1.grownBy W2 (some gk)):=by rw[hW2];exact aj _ _ _ _
 have HC2:Hid (ClS w0 W2 B gk gf gs bp (.slice pt ts.length ct) (.slice pp np cp) k1 (.slice pf1 fs.length cf1) fs):=⟨⟨by rw[hW2];exact aC HC1.out.cl.kb 0 _,ag HG2.out HC1.out.cl.fb (fun q=>by injection q with q;exact Hne.out.1 q.symm),ag HG2.out HC1.out.cl.sb (fun q=>by injection q with q;exact Hne.out.2.1 q.symm)⟩,di HC1.out.fo HG2.out HC1.out.cl.kb (by decide),ar HC1.out.gr HG2.out (fun y e=>by cases e;exact HC1.out.hk),HC1.out.hk,HC1.out.hf⟩
 have HR2:Hid (FlB W2 n0 (.slice none 0 0) (.slice none 0 0) (.slice none 0 0)):=ag HG2.out HR1.out (fun q=>by injection q with q;have:=Hlt.out.1;have:=Hn0.out;omega)
 go_upto_region 2 with fail
 rw[←hW2]
 clear hW2 k0 kf hwk
 have f0:W2.cell? ⟨gf,0,none⟩=some (.slice pf1 fs.length cf1):=(aa HC2.out.cl.fb 0).trans rfl
 obtain⟨W3,hW3⟩:=Qe (W2.alloc (.cells #[.slice pf1 fs.length cf1,.slice none 0 0,.slice none 0 0] 165))
 have HG3:Hid (W2.grownBy W3 none):=by rw[hW3];exact QG
 have HF3:Hid (FlB W3 W2.heap.size (.slice pf1 fs.length cf1) (.slice none 0 0) (.slice none 0 0)):=by rw[hW3];exact ak _ _ _
 go_upto_region 3 with fail
 rw[←hW3]
 clear hW3 f0
 obtain⟨n1,hn1⟩:=Qe (W2.heap.size)
 simp only[←hn1] at HF3 ⊢
 have Hn1:Hid (n1=W2.heap.size∧w.heap.size<n1):=⟨hn1,by rw[hn1,←Hn0.out];exact aZ HR2.out⟩
 clear hn1
 have HC3:Hid (ClS w0 W3 B gk gf gs bp (.slice pt ts.length ct) (.slice pp np cp) k1 (.slice pf1 fs.length cf1) fs):=HC2.out.keep HG3.out
 have HR3:Hid (FlB W3 n0 (.slice none 0 0) (.slice none 0 0) (.slice none 0 0)):=ag HG3.out HR2.out (by simp)
 have C4:=zW _ _ _ r n cd ts fs k1 W3 (HI.out.li W3 _ fs HC3.out.gr (az.Own.at HC3.out.fo) (by rw[←HT.out.1.len];exact Ql (HI.out.few HT.out.2.1) (by decide)))
 unfold fG at C4
 have k0:W3.cell? ⟨gk,0,none⟩=some (.int .i64 k1):=(aa HC3.out.cl.kb 0).trans rfl
 have f0:W3.cell? ⟨gf,0,none⟩=some (.slice pf1 fs.length cf1):=(aa HC3.out.cl.fb 0).trans rfl
 obtain⟨s0,s1,s2⟩:=eo HC3.out.cl.sb
 go_wp2_with fail
 refine C4.mono ?_
 rintro e4 w4 ⟨p2,m2,c2,p1,m1,c1,rfl,g4,-,h4⟩
 obtain⟨o1,o2⟩:=h4 R HT.out.2.1 HT.out.2.2 HT.out.1.tab
 have hm2:m2=fs.length:=by obtain⟨a,b,e⟩:=az.Own.form o1;injection e with _ e _;rw[e,fY]
 subst hm2
 obtain⟨qb,hqb⟩:=Qe (bgE r n cd ts fs k1)
 rw[←hqb]
 have HG4:Hid (W3.grownBy w4 none):=g4
 have HF4:Hid (FlB w4 n1 (.slice pf1 fs.length cf1) (.slice none 0 0) (.slice none 0 0)):=ag g4 HF3.out (by simp)
 have HR4:Hid (FlB w4 n0 (.slice none 0 0) (.slice none 0 0) (.slice none 0 0)):=ag g4 HR3.out (by simp)
 have HC4:Hid (ClS w0 w4 B gk gf gs bp (.slice pt ts.length ct) (.slice pp np cp) k1 (.slice pf1 fs.length cf1) fs):=HC3.out.keep g4
 have HO4:Hid (aQ w4 W3.heap.size (.slice p2 fs.length c2) (nR R fs k1)∧bF w4 W3.heap.size (.slice p1 m1 c1) ((du R fs k1).2.map Se.s)):=⟨o1,o2⟩
 clear C4 g4 h4 k0 f0 s0 s1 s2 hqb o1 o2
 obtain⟨W5,hW5⟩:=Qe ((w4.setCell ⟨n1,2,none⟩ (.slice p2 fs.length c2)).setCell ⟨n1,1,none⟩ (.slice p1 m1 c1))
 have HG5:Hid (w4.grownBy W5 (some n1)):=by rw[hW5];exact ae (aj _ _ _ _) (aj _ _ _ _)
 have HF5:Hid (FlB W5 n1 (.slice pf1 fs.length cf1) (.slice p1 m1 c1) (.slice p2 fs.length c2)):=by rw[hW5];exact Ex HF4.out
 obtain⟨l0,l1,l2⟩:=mH HF4.out
 have lf:=fun i=>au HF4.out i
 go_upto_region 4 with fail
 rw[←hW5]
 clear hW5 l0 l1 l2 lf
 have Hnn:Hid (n1≠n0∧n1≠gk∧n1≠gf∧n1≠gs∧n0≠gf∧n0≠gk∧n0≠gs):=by
  have a:=Hn1.out.2;have b:=Hn0.out;have c:=Hlt.out
  exact⟨by omega,by omega,by omega,by omega,by omega,by omega,by omega⟩
 have HR5:Hid (FlB W5 n0 (.slice none 0 0) (.slice none 0 0) (.slice none 0 0)):=ag HG5.out HR4.out (fun q=>by injection q with q;exact Hnn.out.1 q.symm)
 have HK5:Hid (ClB W5 gk gf gs bp (.slice pt ts.length ct) (.slice pp np cp) k1 (.slice pf1 fs.length cf1)):=⟨ag HG5.out HC4.out.cl.kb (fun q=>by injection q with q;exact Hnn.out.2.1 q.symm),ag HG5.out HC4.out.cl.fb (fun q=>by injection q with q;exact Hnn.out.2.2.1 q.symm),ag HG5.out HC4.out.cl.sb (fun q=>by injection q with q;exact Hnn.out.2.2.2.1 q.symm)⟩
 have f0:W5.cell? ⟨gf,0,none⟩=some (.slice pf1 fs.length cf1):=(aa HK5.out.fb 0).trans rfl
 have ff:W5.frozen? ⟨gf,0,none⟩=false:=au HK5.out.fb 0
 obtain⟨l0,l1,l2⟩:=mH HF5.out
 obtain⟨W6,hW6⟩:=Qe (W5.setCell ⟨gf,0,none⟩ (.slice p2 fs.length c2))
 have HG6:Hid (W5.grownBy W6 (some gf)):=by rw[hW6];exact aj _ _ _ _
 have HK6:Hid (ClB W6 gk gf gs bp (.slice pt ts.length ct) (.slice pp np cp) k1 (.slice p2 fs.length c2)):=⟨ag HG6.out HK5.out.kb (fun q=>by injection q with q;exact Hne.out.1 q),by rw[hW6];exact aC HK5.out.fb 0 _,ag HG6.out HK5.out.sb (fun q=>by injection q with q;exact Hne.out.2.2 q.symm)⟩
 go_upto_region 5 with fail
 rw[←hW6]
 clear hW6 l0 l1 l2 f0 ff
 have HF6:Hid (FlB W6 n1 (.slice pf1 fs.length cf1) (.slice p1 m1 c1) (.slice p2 fs.length c2)):=ag HG6.out HF5.out (fun q=>by injection q with q;exact Hnn.out.2.2.1 q)
 have HR6:Hid (FlB W6 n0 (.slice none 0 0) (.slice none 0 0) (.slice none 0 0)):=ag HG6.out HR5.out (fun q=>by injection q with q;exact Hnn.out.2.2.2.2.1 q)
 obtain⟨l0,l1,l2⟩:=mH HF6.out
 obtain⟨r0,r1,r2⟩:=mH HR6.out
 have rf:=fun i=>au HR6.out i
 obtain⟨W7,hW7⟩:=Qe (((W6.setCell ⟨n0,0,none⟩ (.slice pf1 fs.length cf1)).setCell ⟨n0,1,none⟩ (.slice p1 m1 c1)).setCell ⟨n0,2,none⟩ (.slice p2 fs.length c2))
 have HG7:Hid (W6.grownBy W7 (some n0)):=by rw[hW7];exact ae (ae (aj _ _ _ _) (aj _ _ _ _)) (aj _ _ _ _)
 have HTw:Hid (Twv w W7 gk gf):=fun x hx h1 h2=>by
  have z1:x<W1.heap.size:=Nat.lt_of_lt_of_le hx HG1.out.size
  have z2:x<W2.heap.size:=Nat.lt_of_lt_of_le z1 HG2.out.size
  have z3:x<W3.heap.size:=Nat.lt_of_lt_of_le z2 HG3.out.size
  have z4:x<w4.heap.size:=Nat.lt_of_lt_of_le z3 HG4.out.size
  have z5:x<W5.heap.size:=Nat.lt_of_lt_of_le z4 HG5.out.size
  have z6:x<W6.heap.size:=Nat.lt_of_lt_of_le z5 HG6.out.size
  have a1:=Hn1.out.2
  have a0:=Hn0.out
  rw[HG7.out.block x z6 (fun q=>by injection q with q;omega),HG6.out.block x z5 (fun q=>by injection q with q;exact h2 q),HG5.out.block x z4 (fun q=>by injection q with q;omega),HG4.out.block x z3 (by simp),HG3.out.block x z2 (by simp),HG2.out.block x z1 (fun q=>by injection q with q;exact h1 q),HG1.out.block x hx (by simp)]
 have HS:Hid (ClS w0 W7 w.heap.size gk gf gs bp (.slice pt ts.length ct) (.slice pp np cp) (k+1) (.slice p2 fs.length c2) (nR R fs (k+1))∧bF W7 w.heap.size (.slice p1 m1 c1) ((du R fs (k+1)).2.map Se.s)∧aQ W7 B (.slice pf1 fs.length cf1) fs):=by
  have kp:∀ {base e size n:Nat} {v:Value} {xs:List Value},w4.ownsRow base e size v n xs→165≠e→27≠e→W7.ownsRow base e size v n xs:=fun o h1 h2=>di (di (di o HG5.out HF4.out h1) HG6.out HK5.out.fb h2) HG7.out HR6.out h1
  have hB:w.heap.size≤W3.heap.size:=Ql HG1.out.size (Ql HG2.out.size HG3.out.size)
  have b0:w0.heap.size≤n0:=by have:=HC4.out.hk;have:=Hlt.out.1;have:=Hn0.out;omega
  have b1:w0.heap.size≤n1:=by have:=Hn1.out.2;have:=Hn0.out;omega
  rw[←Hk1.out]
  refine⟨⟨⟨ag HG7.out HK6.out.kb (fun q=>by injection q with q;exact Hnn.out.2.2.2.2.2.1 q.symm),ag HG7.out HK6.out.fb (fun q=>by injection q with q;exact Hnn.out.2.2.2.2.1 q.symm),ag HG7.out HK6.out.sb (fun q=>by injection q with q;exact Hnn.out.2.2.2.2.2.2 q.symm)⟩,aP (kp HO4.out.1 (by decide) (by decide)) hB,?_,HC4.out.hk,HC4.out.hf⟩,aP (kp HO4.out.2 (by decide) (by decide)) hB,kp HC4.out.fo (by decide) (by decide)⟩
  exact ar (ar (ar HC4.out.gr HG5.out (fun y e=>by cases e;exact b1)) HG6.out (fun y e=>by cases e;exact HC4.out.hf)) HG7.out (fun y e=>by cases e;exact b0)
 go_wp2_with fail
 refine bodyPost_ret (v:=.agg #[.slice pf1 fs.length cf1,.slice p1 m1 c1,.slice p2 fs.length c2]) (by simp[results,Tryz.results156,go_sem,r0,r1,r2]) rfl ⟨p1,m1,c1,p2,c2,rfl,?_⟩
 rw[←hW7]
 exact⟨HS.out.1,HS.out.2.1,HS.out.2.2,HTw.out⟩
theorem uG (h:vkE r n cd ts (aR pf (ts.take 2048)) me=0) (hk:0≤k∧k≤6) (hT:Tab n cd ts (aR pf ts) R):vBh r n cd ts pf mf me k=bhL R mf ts (aR pf ts) k:=by
 unfold vBh
 rw[h,Qy hk,if_pos Bu,hT.tab]
theorem EE (h:vqE (vkE r n cd ts (aR pf (ts.take 2048)) me) (decide (0≤k∧k≤6)) 2≠0):vBh r n cd ts pf mf me k=[]:=if_neg h
theorem Twv.keep {gk gf gs:Nat} {x:Nat} {t:TypeId} (h:Twv w w' gk gf) (c:ClB w gk gf gs bp vt vp k vf) (hx:w.heap[x]?=some (.cells cs t (0,0))) (h3:(3:Nat)≠t) (hs:27≠t):w'.heap[x]?=some (.cells cs t (0,0)):=by
 rw[h x (aZ hx) (fun z=>by rw[z,c.kb] at hx;simp at hx;exact h3 hx.2) (fun z=>by rw[z,c.fb] at hx;simp at hx;exact hs hx.2)]
 exact hx
theorem Tryz.fl1 (p q r:Option Addr) (a b c d e f:Nat) (w:World):(Instr.field 165 (.agg #[.slice p a b,.slice q c d,.slice r e f]) 1).run Tryz.prog w=.ok (.slice q c d) w:=by kernel_rfl
theorem Tryz.fl2 (p q r:Option Addr) (a b c d e f:Nat) (w:World):(Instr.field 165 (.agg #[.slice p a b,.slice q c d,.slice r e f]) 2).run Tryz.prog w=.ok (.slice r e f) w:=by kernel_rfl
def j8 (w:World) (r n:Int) (cd:Int→Hd×List Pt) (ts:List Th) (pf:Th→Fe) (mf:Fe→Th→Fe) (me:Th→Int) (k:Int) (e:Ending) (w':World):Prop:=∃ v,e=.returned (.tuple #[v,.int .i64 (vqE (vkE r n cd ts (aR pf (ts.take 2048)) me) (decide (0≤k∧k≤6)) 2)])∧w.grownBy w' none∧aQ w' w.heap.size v (vBh r n cd ts pf mf me k)
theorem j8.no (h:vqE (vkE r n cd ts (aR pf (ts.take 2048)) me) (decide (0≤k∧k≤6)) 2=x) (hx:x≠0) (g:w.grownBy w' none):j8 w r n cd ts pf mf me k (.returned (.tuple #[.slice none 0 0,.int .i64 x])) w':=⟨_,by rw[h],g,by rw[EE (by rw[h];exact hx)];exact az.Own.nil _ _ _ _⟩
theorem lU (bp:Option Addr) (vt:Value) (r n:Int) (cd:Int→Hd×List Pt) (ts:List Th) (pf:Th→Fe) (mf:Fe→Th→Fe) (me:Th→Int) (k:Int) (w:World) (I:VIn w (.pointer bp) vt r n cd ts pf mf me):Calls Tryz.prog 30 #[.pointer bp,vt,.int .i64 k] w (j8 w r n cd ts pf mf me k):=by
 have HLk:=kX bp vt r n cd ts pf mf me w I
 unfold iX at HLk
 obtain⟨pt,ct,rfl,hcap⟩:=I.cap
 have HI:Hid (VIn w (.pointer bp) (.slice pt ts.length ct) r n cd ts pf mf me):=I
 clear I hcap
 go_enter Tryz.func30,Tryz.ntmps30
 go_wp2_with fail
 refine HLk.mono ?_
 rintro e2 w2 ⟨bq,p1,m1,c1,p2,m2,c2,rfl,g2,h2⟩
 obtain⟨q,hq⟩:=Qe (vkE r n cd ts (aR pf (ts.take 2048)) me)
 rw[←hq] at h2 ⊢
 have Hq:Hid (q=vkE r n cd ts (aR pf (ts.take 2048)) me):=hq
 clear HLk hq
 obtain⟨W3,hW3⟩:=Qe (w2.alloc (.cells #[.pointer bq,.slice p1 m1 c1,.slice p2 m2 c2] 159))
 have HG3:Hid (w.grownBy W3 none):=by rw[hW3];exact al g2 _
 have HS3:Hid (ScB W3 w2.heap.size bq (.slice p1 m1 c1) (.slice p2 m2 c2)):=by rw[hW3];exact ak _ _ _
 have H2:Hid (q=0→bq=bp∧Value.slice pt ts.length ct=.slice p1 m1 c1∧aQ W3 w.heap.size (.slice p2 m2 c2) (aR pf ts)):=fun z=>by
  obtain⟨a,b,c⟩:=h2 z
  exact⟨a,b,aw c (by rw[hW3];exact QG)⟩
 clear g2 h2
 go_upto_region 2 with fail
 rw[←hW3]
 clear hW3
 obtain⟨ns,hns⟩:=Qe (w2.heap.size)
 simp only[←hns] at HS3 ⊢
 clear hns
 by_cases hq0:q=0
 ·have e1:(q != 0)=false:=by simpa using hq0
  have hv0:vkE r n cd ts (aR pf (ts.take 2048)) me=0:=Hq.out.symm.trans hq0
  obtain⟨hr0,⟨R,hR⟩,-⟩:=rD hv0
  have hts:ts.length≤2048:=HI.out.few hr0
  rw[List.take_of_length_le hts] at hR
  obtain⟨eb,ev,hO⟩:=H2.out hq0
  subst eb
  injection ev with ev1 ev2 ev3
  subst ev1
  subst ev3
  rw[←ev2] at HS3 ⊢
  obtain⟨L,hL⟩:=Qe (ts.length)
  have hm2:m2=ts.length:=by obtain⟨a,b,e⟩:=az.Own.form hO;injection e with _ e _;rw[e,eQ]
  obtain⟨F,hF⟩:=Qe (aR pf ts)
  have HF:Hid (F=aR pf ts∧F.length=ts.length):=⟨hF,by rw[hF,eQ]⟩
  rw[←hF] at hO hR
  rw[hm2] at hO HS3 ⊢
  have HO:Hid (aQ W3 w.heap.size (.slice p2 ts.length c2) F):=hO
  have HT:Hid (Tab n cd ts F R∧r=0∧ts.length≤2048∧vkE r n cd ts (aR pf (ts.take 2048)) me=0):=⟨hR,hr0,hts,hv0⟩
  clear H2 hq0 hv0 hR hr0 hts hm2 hO hF ev2 m1 m2 hL L
  by_cases hk:0≤k∧k≤6
  ·have k1:decide (k<0)=false:=Qx (by omega)
   have k2:decide ((6:Int)<k)=false:=Qx (by omega)
   have k1':¬(k<0):=by omega
   have k2':¬((6:Int)<k):=by omega
   have Hk:Hid (0≤k∧k≤6):=hk
   obtain⟨m,hm⟩:∃ m:Nat,m=(min k 5).toNat:=⟨_,rfl⟩
   have hmin:min k 5=(m:Int):=by omega
   have Hm:Hid (m≤5∧(k=6→m=5)∧(k≠6→m=k.toNat)):=⟨by omega,by omega,by omega⟩
   clear hk hm
   go_upto_region 6 with fail
   obtain⟨s0,s1,s2⟩:=eo HS3.out
   refine wp_region_held_drew (S:=fun w'=>W3.grownBy w' none) (by kernel_rfl) (ai _) (fun hHeld=>?_)
   refine QZ 0 rfl ?_
   go_frame
   refine QT 1 rfl (by intro w0 hSw;have s2:=QK hSw s2;go_simp;try with_reducible rfl) ?_
   go_frame
   refine QT 2 rfl (by intro w0 hSw;have s0:=QK hSw s0;have s1:=QK hSw s1;have s2:=QK hSw s2;go_simp;try with_reducible rfl) ?_
   go_frame
   refine QR 3 rfl (fun K hK=>?_)
   go_simp
   go_at_call 88
   refine(iy _ _ _ _ _ _ _ _).mono ?_
   rintro e4 w4 ⟨gk,gf,gs,rfl,h4,g4,hk4,hf4⟩
   have HG4:Hid (W3.grownBy w4 none):=ae (ai _) g4
   have HC4:Hid (ClB w4 gk gf gs bq (.slice pt ts.length ct) (.slice p2 ts.length c2) 0 (.slice p2 ts.length c2)∧w.heap.size≤gk∧w.heap.size≤gf):=⟨h4,Ql HG3.out.size hk4,Ql HG3.out.size hf4⟩
   clear h4 g4 hk4 hf4
   refine hK.out _ _ (HG4.out) (fun hHeld2=>?_)
   clear hK K
   (try go_frame)
   refine QZ 4 rfl ?_
   go_frame
   refine QZ 5 rfl ?_
   go_frame
   refine QD ?_
   clear hHeld hHeld2 s0 s1 s2 k1 k2 k1' k2' e1
   have HC0:Hid (ClS w w4 w.heap.size gk gf gs bq (.slice pt ts.length ct) (.slice p2 ts.length c2) ((0:Nat):Int) (.slice p2 ts.length c2) (clF R F 0)):=⟨HC4.out.1,aw HO.out HG4.out,ae HG3.out HG4.out,HC4.out.2.1,HC4.out.2.2⟩
   unfold clV
   go_wp2_with fail
   go_loopw [10,35] (fun x y wr=>∃ (j:Nat) (p:Option Addr) (c B:Nat),j≤m∧y=.int .i64 (j:Int)∧x=.slice p ts.length c∧Hid (ClS w wr B gk gf gs bq (.slice pt ts.length ct) (.slice p2 ts.length c2) (j:Int) (.slice p ts.length c) (clF R F j))∧Hid (w.heap.size≤B)∧Hid (ScB wr ns bq (.slice pt ts.length ct) (.slice p2 ts.length c2))) (fun _ y _=>m - (intOf y).toNat)
   case atStart=>exact⟨0,p2,c2,w.heap.size,Q0 _,rfl,rfl,HC0,Qj _,ag HG4.out HS3.out (by simp)⟩
   case round =>
    obtain⟨j,p,c,B,hj,rfl,rfl,HC,HB,HSU⟩:=hrel
    obtain⟨U,hU⟩:=Qe (wr)
    subst hU
    clear HC0
    by_cases hlt:j<m
    ·have hlf:(clF R F j).length=ts.length:=by rw[ix];exact HF.out.2
     have C5:=jA bq pt p2 ct ts.length c2 r n cd ts pf mf me w U B gk gf gs (j:Int) (.slice p ts.length c) (clF R F j) R HI.out HC.out (HT.out.1.cl j) HT.out.2.1 (by omega) (by have:=Hm.out.1;omega)
     unfold qH at C5
     rw[hlf] at C5
     have hlt':(j:Int)<(m:Int):=by omega
     have hwk:=aK (k:=j) (by have:=Hm.out.1;omega)
     have Hlt:Hid (j<m):=hlt
     have HM:Hid (m - (intOf (.int .i64 ((j:Int)+1))).toNat<m - (intOf (.int .i64 (j:Int))).toNat):=bj hlt
     have HSz:Hid (w.heap.size≤U.heap.size):=HC.out.gr.size
     have HCl:=HC.out.cl
     have HCL:Hid (ClB U gk gf gs bq (.slice pt ts.length ct) (.slice p2 ts.length c2) (j:Int) (.slice p ts.length c)):=HCl
     clear hlt hj hlf HC HCl
     have hfl:=Tryz.fl2
     go_wp2_with (go_at_call 156;refine C5.mono ?_;rintro e5 w5 ⟨q1,n1,d1,q2,d2,rfl,h5,-,-,tw5⟩;have HC5:Hid (ClS w w5 U.heap.size gk gf gs bq (.slice pt ts.length ct) (.slice p2 ts.length c2) ((j+1:Nat):Int) (.slice q2 ts.length d2) (clF R F (j+1))):=h5;have HSU5:Hid (ScB w5 ns bq (.slice pt ts.length ct) (.slice p2 ts.length c2)):=tw5.keep HCL.out HSU.out (by decide) (by decide);clear C5 h5 tw5)
     go_roundw
     case rel=>exact⟨j+1,q2,d2,U.heap.size,Hlt.out,by first | rfl | (rw[hwk];rfl) | go_num,rfl,HC5,HSz,HSU5⟩
     case measure=>first | exact HM.out | (rw[hwk];exact HM.out)
    ·obtain rfl:j=m:=Nat.le_antisymm hj (Nat.le_of_not_lt hlt)
     clear hj hlt
     by_cases h6:k=6
     ·have e6:(k == 6)=true:=by rw[h6];rfl
      have HL:Hid (bhL R mf ts F k=kM mf ts (clF R F j)):=by show _=_;unfold bhL;rw[if_pos h6,(Hm.out.2.1 h6)]
      have C6:=rZ bq _ _ p2 ts.length c2 ts (clF R F j) mf me U (HI.out.th.keep HC.out.gr) (az.Own.at HC.out.fo) (by rw[ix];exact HF.out.2.symm) HT.out.2.2.1 (HI.out.keep HC.out.gr).mkd
      obtain⟨s0,s1,s2⟩:=eo HSU.out
      have HGU:Hid (w.grownBy U none):=HC.out.gr
      clear h6
      go_wp2_with fail
      refine C6.mono ?_
      rintro e6 w6 ⟨v6,rfl,o6,g6⟩
      have HX:Hid (aQ w6 w.heap.size v6 (vBh r n cd ts pf mf me k)∧w.grownBy w6 none):=⟨by rw[uG HT.out.2.2.2 Hk.out (HF.out.1 ▸ HT.out.1),←HF.out.1,HL.out];exact aP o6 HGU.out.size,ae HGU.out g6⟩
      clear C6 o6 g6 s0 s1 s2
      go_wp2_with fail
      go_ret2
      exact⟨_,by rw[HT.out.2.2.2,Qy Hk.out];rfl,HX.out.2,HX.out.1⟩
     ·have e6:(k == 6)=false:=by simpa using h6
      have HL:Hid (bhL R mf ts F k=clF R F j):=by show _=_;unfold bhL;rw[if_neg h6,(Hm.out.2.2 h6)]
      have HX:Hid (aQ U w.heap.size (.slice p ts.length c) (vBh r n cd ts pf mf me k)∧w.grownBy U none):=⟨by rw[uG HT.out.2.2.2 Hk.out (HF.out.1 ▸ HT.out.1),←HF.out.1,HL.out];exact aP HC.out.fo HB.out,HC.out.gr⟩
      clear h6
      go_wp2_with fail
      go_ret2
      exact⟨_,by rw[HT.out.2.2.2,Qy Hk.out];rfl,HX.out.2,HX.out.1⟩
  ·have HX:Hid (vqE (vkE r n cd ts (aR pf (ts.take 2048)) me) (decide (0≤k∧k≤6)) 2=2):=by show _=_;rw[HT.out.2.2.2,Qx hk];rfl
   by_cases hl:k<0
   ·have k1:decide (k<0)=true:=Qy hl
    clear hk hl
    go_wp2_with fail
    go_ret2
    exact j8.no HX.out (by decide) HG3.out
   ·have k1:decide (k<0)=false:=Qx hl
    have k2:decide ((6:Int)<k)=true:=Qy (by omega)
    have k2':(6:Int)<k:=by omega
    clear hk
    go_wp2_with fail
    go_ret2
    exact j8.no HX.out (by decide) HG3.out
 ·have e1:(q != 0)=true:=by simpa using hq0
  have HX:Hid (vqE (vkE r n cd ts (aR pf (ts.take 2048)) me) (decide (0≤k∧k≤6)) 2=q):=by show _=_;rw[←Hq.out,qK hq0]
  have Hq0:Hid (q≠0):=hq0
  clear hq0
  go_wp2_with fail
  go_ret2
  exact j8.no HX.out Hq0.out HG3.out
theorem xw (bp:Option Addr) (vt:Value) (r n:Int) (cd:Int→Hd×List Pt) (ts:List Th) (pf:Th→Fe) (mf:Fe→Th→Fe) (me:Th→Int) (w:World) (I:VIn w (.pointer bp) vt r n cd ts pf mf me):Calls Tryz.prog 29 #[.pointer bp,vt] w (j8 w r n cd ts pf mf me 6):=by
 have C:=lU bp vt r n cd ts pf mf me 6 w I
 unfold j8 at C
 go_enter Tryz.func29,Tryz.ntmps29
 go_wp2_with fail
 refine C.mono ?_
 rintro e2 w2 ⟨v,rfl,g,o⟩
 have H:Hid (w.grownBy w2 none∧aQ w2 w.heap.size v (vBh r n cd ts pf mf me 6)):=⟨g,o⟩
 clear C g o
 go_wp2_with fail
 go_ret2
 exact⟨_,rfl,H.out.1,H.out.2⟩
end Go.Proofs.YtjmepebbcnhalaaGreat
