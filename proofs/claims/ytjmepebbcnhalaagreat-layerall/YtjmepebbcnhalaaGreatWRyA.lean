/-
  
-/
import Derived.Test.YtjmepebbcnhalaaGreatW34
import Derived.Test.YtjmepebbcnhalaaGreatW24
import Derived.Test.YtjmepebbcnhalaaGreatW12
import Derived.Test.YtjmepebbcnhalaaGreatW30
import Derived.BigQuiet
namespace Go.Proofs.YtjmepebbcnhalaaGreat
set_option maxRecDepth 100000
set_option maxHeartbeats 4000000
open Go.RowKit Go.Shelf

def TrI (fs:List Fe):Prop:=∀ f∈fs,0≤f.tr∧f.tr<65536
def eV (p:Pl) (gs:List Ent) (ts:List Th) (F:List Fe):Bool:=p.shut && (decide (ts.length≤2048) && (bi (gs.length:Int) (atC p gs) ts F).isSome)
theorem Ab {p:Pl} {gs:List Ent} {ts:List Th} {F:List Fe} (h:p.shut=false):eV p gs ts F=false:=by unfold eV;rw[h];rfl
theorem zo {p:Pl} {gs:List Ent} {ts:List Th} {F:List Fe} (h:¬ts.length≤2048):eV p gs ts F=false:=by unfold eV;rw[decide_eq_false h,Bool.false_and,Bool.and_false]
theorem eR {p:Pl} {gs:List Ent} {ts:List Th} {F:List Fe} (h:bi (gs.length:Int) (atC p gs) ts F=none):eV p gs ts F=false:=by unfold eV;rw[h];simp
theorem AW {p:Pl} {gs:List Ent} {ts:List Th} {F:List Fe} (hs:p.shut=true) (hl:ts.length≤2048) (h:∃ R,bi (gs.length:Int) (atC p gs) ts F=some R):eV p gs ts F=true:=by
 obtain⟨R,h⟩:=h
 unfold eV
 rw[hs,h,decide_eq_true hl]
 rfl
theorem vj {p:Pl} {gs:List Ent} {n:Int} (hs:p.shut=true):atX p gs n=0↔(1≤n∧n≤(gs.length:Int)):=by
 by_cases q:mD p gs n
 ·rw[ta q]
  exact⟨fun _=>q.2,fun _=>rfl⟩
 ·rw[lu q]
  exact⟨fun z=>absurd z (by decide),fun z=>absurd ⟨hs,z⟩ q⟩
theorem zk {n:Int} {t:Th} (h:¬(1≤t.card∧t.card≤n)):cj n t=false:=by
 unfold cj
 cases q:(decide (1≤t.card) && decide (t.card≤n)) with
 | false=>rfl
 | true=>simp only[Bool.and_eq_true,decide_eq_true_eq] at q;exact absurd q h
theorem qU {n:Int} {t:Th} (h:t.owner<0∨1<t.owner):cj n t=false:=by
 unfold cj fG
 rw[decide_eq_false (show ¬t.owner=0 by omega),decide_eq_false (show ¬t.owner=1 by omega)]
 simp
theorem sv {n:Int} {t:Th} (h:t.place<1∨5<t.place):cj n t=false:=by
 unfold cj
 rcases h with h | h
 ·rw[decide_eq_false (show ¬1≤t.place by omega)];simp
 ·rw[decide_eq_false (show ¬t.place≤5 by omega)];simp
theorem zj {n:Int} {t:Th} (h1:1≤t.card∧t.card≤n) (h2:¬t.owner<0) (h3:¬1<t.owner) (h4:¬t.place<1) (h5:¬5<t.place):cj n t=true:=by
 unfold cj fG
 simp only[Bool.and_eq_true,Bool.or_eq_true,decide_eq_true_eq]
 exact⟨⟨⟨⟨h1.1,h1.2⟩,by omega⟩,by omega⟩,by omega⟩
theorem wW {t:Th} {f:Fe} (h:t.stamp<1):aY t f=false:=by
 unfold aY
 rw[decide_eq_false (show ¬0<t.stamp by omega)];simp
theorem ox {t:Th} {f:Fe} (h:f.ho<0∨1<f.ho):aY t f=false:=by
 unfold aY fG
 rw[decide_eq_false (show ¬f.ho=0 by omega),decide_eq_false (show ¬f.ho=1 by omega)];simp
theorem vM {t:Th} {f:Fe} (hi:0≤f.tr∧f.tr<65536) (h:¬f.tr<256):aY t f=false:=by
 unfold aY
 rw[my _ hi.1 hi.2,decide_eq_false h];simp
theorem wP {t:Th} {f:Fe} (hi:0≤f.tr∧f.tr<65536) (h1:¬t.stamp<1) (h2:¬f.ho<0) (h3:¬1<f.ho) (h:f.tr<256):aY t f=true:=by
 unfold aY fG
 rw[my _ hi.1 hi.2]
 simp only[Bool.and_eq_true,Bool.or_eq_true,decide_eq_true_eq]
 exact⟨⟨by omega,by omega⟩,h⟩
def CdK (w:World) (g:Nat) (h:Hd) (u:Value):Prop:=w.heap[g]?=some (.cells (ccs h u) 111 (0,0))
theorem oM {w:World} {g off n c:Nat} {X:List Th} (h:thR.At w (.slice (some ⟨g,off,none⟩) n c) X) {i:Nat} {x:Th} (hx:X[i]?=some x):w.rangeAt g (off+i*11) (thc x):=by
 obtain⟨hi,e⟩:=List.getElem?_eq_some_iff.1 hx
 obtain⟨g',off',cap,e1,r⟩:=dw h hi
 injection e1 with e1 _ _
 injection e1 with e1
 injection e1 with ea eb
 rw[ea,eb,←e]
 exact r
theorem nD (ok:Nat→Prop) (r:Nat) (v:Value) (p:Pl) (gs:List Ent) (vt vf:Value) (ts:List Th) (F:List Fe) (w:World) (B:RD ok w r v p gs) (A:thR.At w vt ts) (AF:feR.At w vf F) (hr:TrI F):Calls Tryz.prog 137 #[.pointer (some ⟨r,0,none⟩),vt,vf] w fun e w'=>e=.returned (.bool (eV p gs ts F))∧w.grownBy w' none:=by
 obtain⟨pt,ct,rfl⟩:=A.form
 obtain⟨pf,cf,rfl⟩:=AF.form
 have HB:Hid (RD ok w r v p gs∧thR.At w (.slice pt ts.length ct) ts∧feR.At w (.slice pf F.length cf) F∧TrI F):=⟨B,A,AF,hr⟩
 have C1:=iV r v p w B.rj
 clear B A AF hr
 obtain⟨sh,hsh⟩:∃ sh,sh=p.shut:=⟨_,rfl⟩
 have Hsh:Hid (sh=p.shut):=hsh
 rw[←hsh] at C1
 clear hsh
 go_enter Tryz.func137,Tryz.ntmps137
 go_wp2_with fail
 refine C1.mono ?_
 rintro e1 w1 ⟨rfl,hw1⟩
 rw[hw1]
 clear hw1 w1 C1
 cases sh with
 | false =>
  go_wp2_with fail
  go_ret
  exact⟨by rw[Ab Hsh.out.symm] <;> rfl,ay _ _⟩
 | true =>
  by_cases h2:ts.length≤2048
  ·have h2':decide ((2048:Int)<(ts.length:Int))=false:=decide_eq_false (by omega)
   have H2:Hid (ts.length≤2048):=h2
   clear h2
   by_cases hl:ts.length=F.length
   ·have hl':((F.length:Int) != (ts.length:Int))=false:=by rw[hl];exact bne_self_eq_false _
    have HL:Hid (ts.length=F.length):=hl
    clear hl
    go_wp2_with fail
    clear hl' h2'
    go_loopw [7,8,9,10,11,12] (fun m i _ _ _ _ wr=>∃ (j:Nat),j≤ts.length∧i=.int .i64 (j:Int)∧m=.int .i64 ((onC ts j:Nat):Int)∧Hid (TgU (gs.length:Int) (atC p gs) ts F j∧w.grownBy wr none)) (fun _ i _ _ _ _ _=>ts.length - (intOf i).toNat)
    case atStart=>exact⟨0,Nat.zero_le _,rfl,rfl,TgU.start _ _ _ _,ay _ _⟩
    case round =>
     obtain⟨j,hj',rfl,rfl,HT⟩:=hrel
     obtain⟨U,hU⟩:∃ U,U=wr:=⟨_,rfl⟩
     subst hU
     by_cases hj:j<ts.length
     ·have j1:(j:Int)<(ts.length:Int):=Int.ofNat_lt.2 hj
      have jf:(j:Int)<(F.length:Int):=by rw[←HL.out];exact j1
      have hwk:=aW (k:=j) (Nat.le_trans (Nat.le_of_lt hj) (Nat.le_trans H2.out (by decide)))
      have HM:Hid (ts.length - (intOf (.int .i64 ((j:Int)+1))).toNat<ts.length - (intOf (.int .i64 (j:Int))).toNat):=bQ hj
      obtain⟨gT,oT,cT,eT,rT⟩:=dw (HB.out.2.1.keep HT.out.2) hj
      injection eT with eT eT2 eT3
      clear eT2 eT3
      subst eT
      obtain⟨t,ht⟩:∃ t,t=ts[j]:=⟨_,rfl⟩
      rw[←ht] at rT
      obtain⟨f,hf⟩:∃ f,F[j]?=some f:=⟨_,List.getElem?_eq_getElem (by rw[←HL.out];exact hj)⟩
      have HX:Hid (ts[j]?=some t∧F[j]?=some f∧j<ts.length∧(0≤f.tr∧f.tr<65536)):=⟨by rw[ht];exact List.getElem?_eq_getElem hj,hf,hj,HB.out.2.2.2 f (List.mem_of_getElem? hf)⟩
      obtain⟨t0,t1,t2,t3,t4,t5,t6,t7,t8,t9,t10⟩:=dh rT
      obtain⟨V,hV⟩:∃ V,V=U.alloc (.cells #[.int .i64 t.card,.int .i64 t.owner,.int .u8 t.place,.int .i64 t.stamp,.int .i64 t.hurt,.int .i64 t.m0,.int .i64 t.m1,.int .i64 t.m2,.int .i64 t.m3,.int .i64 t.done,.bool t.fresh] 120):=⟨_,rfl⟩
      have HV:Hid (ThB V U.heap.size t∧w.grownBy V none):=⟨by rw[hV];exact ak _ _ _,by rw[hV];exact am HT.out.2 _⟩
      clear hj' hj rT ht hf
      go_upto_region 8 with fail
      rw[←hV]
      obtain⟨n0,hn0⟩:∃ n0,n0=U.heap.size:=⟨_,rfl⟩
      rw[←hn0] at HV ⊢
      clear hV hn0 t0 t1 t2 t3 t4 t5 t6 t7 t8 t9 t10
      have C2:=lv ok r v p gs t.card V (HB.out.1.keep HV.out.2)
      unfold fO at C2
      obtain⟨h,hh⟩:∃ h,h=(atC p gs t.card).1:=⟨_,rfl⟩
      obtain⟨x,hx⟩:∃ x,x=atX p gs t.card:=⟨_,rfl⟩
      have Hhx:Hid (h=(atC p gs t.card).1∧x=atX p gs t.card):=⟨hh,hx⟩
      rw[←hh,←hx] at C2
      unfold cv at C2
      clear hh hx
      obtain⟨b0,b1,b2,b3,b4,b5,b6,b7,b8,b9,b10⟩:=dj HV.out.1
      go_wp2_with fail
      refine C2.mono ?_
      rintro e2 w2 ⟨u,rfl,ou,g2⟩
      obtain⟨pu,cu,mu,rfl⟩:∃ p c m,u=.slice p m c:=by obtain⟨p,c,e,_⟩:=bz ou;exact⟨p,c,_,e⟩
      obtain⟨Z,hZ⟩:∃ Z,Z=w2.alloc (.cells #[.string h.nm,.int .u8 h.su,.int .u8 h.kd,.int .i64 h.co,.int .i64 h.po,.int .i64 h.he,.int .u16 h.tr,.bool h.tk,.slice pu mu cu] 111):=⟨_,rfl⟩
      have HZ:Hid (CdK Z w2.heap.size h (.slice pu mu cu)∧ThB Z n0 t∧w.grownBy Z none):=by
       have g:w2.grownBy Z none:=by rw[hZ];exact World.grownBy_alloc _ _ none
       exact⟨by rw[hZ];exact ak _ _ _,ai g (ai g2 HV.out.1 (by simp)) (by simp),aa (aa HV.out.2 g2) g⟩
      clear C2 ou g2 b0 b1 b2 b3 b4 b5 b6 b7 b8 b9 b10
      go_upto_region 9 with fail
      rw[←hZ]
      obtain⟨nc,hnc⟩:∃ nc,nc=w2.heap.size:=⟨_,rfl⟩
      rw[←hnc] at HZ ⊢
      clear hZ hnc
      have HGE:Hid (w.grownBy Z none):=HZ.out.2.2
      obtain⟨b0,b1,b2,b3,-⟩:=dj HZ.out.2.1
      have k2:Z.cell? ⟨nc,2,none⟩=some (.int .u8 h.kd):=(ae HZ.out.1 2).trans rfl
      by_cases hx:x=0
      ·have ex:(x != 0)=false:=by rw[hx];rfl
       have HC:Hid (1≤t.card∧t.card≤(gs.length:Int)):=(vj Hsh.out.symm).1 (by rw[←Hhx.out.2];exact hx)
       by_cases o1:t.owner<0
       ·have d1:decide (t.owner<0)=true:=decide_eq_true o1
        have HN:Hid (eV p gs ts F=false):=eR (mH HX.out.1 (qU (Or.inl o1)))
        clear o1 hx
        go_wp2_with fail
        go_ret
        exact⟨by rw[HN.out] <;> rfl,HGE.out⟩
       ·have d1:decide (t.owner<0)=false:=decide_eq_false o1
        by_cases o2:1<t.owner
        ·have d2:decide (1<t.owner)=true:=decide_eq_true o2
         have HN:Hid (eV p gs ts F=false):=eR (mH HX.out.1 (qU (Or.inr o2)))
         clear o1 o2 hx
         go_wp2_with fail
         go_ret
         exact⟨by rw[HN.out] <;> rfl,HGE.out⟩
        ·have d2:decide (1<t.owner)=false:=decide_eq_false o2
         by_cases o3:t.place<1
         ·have d3:decide (t.place<1)=true:=decide_eq_true o3
          have HN:Hid (eV p gs ts F=false):=eR (mH HX.out.1 (sv (Or.inl o3)))
          clear o1 o2 o3 hx
          go_wp2_with fail
          go_ret
          exact⟨by rw[HN.out] <;> rfl,HGE.out⟩
         ·have d3:decide (t.place<1)=false:=decide_eq_false o3
          by_cases o4:5<t.place
          ·have d4:decide (5<t.place)=true:=decide_eq_true o4
           have HN:Hid (eV p gs ts F=false):=eR (mH HX.out.1 (sv (Or.inr o4)))
           clear o1 o2 o3 o4 hx
           go_wp2_with fail
           go_ret
           exact⟨by rw[HN.out] <;> rfl,HGE.out⟩
          ·have d4:decide (5<t.place)=false:=decide_eq_false o4
           have HMb:Hid (cj (gs.length:Int) t=true):=zj HC.out o1 o2 o3 o4
           clear o1 o2 o3 o4 hx
           by_cases h4:t.place=4
           ·have e4:(t.place != 4)=false:=by rw[h4];rfl
            have HP:Hid (t.place=4):=h4
            clear h4
            obtain⟨m,hm⟩:∃ m,m=onC ts j:=⟨_,rfl⟩
            have Hm:Hid (m=onC ts j):=hm
            have hm16:m≤16:=by rw[hm];exact HT.out.1.few
            rw[←hm]
            have hwm:wrap64 ((m:Int)+1)=(m:Int)+1:=aW (Nat.le_trans hm16 (by decide))
            clear hm
            by_cases q1:(16:Int)<(m:Int)+1
            ·have c1:decide ((16:Int)<(m:Int)+1)=true:=decide_eq_true q1
             have HN:Hid (eV p gs ts F=false):=eR (AR (i:=j+1) (by rw[tI HX.out.1 HP.out,←Hm.out];omega))
             clear q1 hm16
             go_wp2_with fail
             go_ret
             exact⟨by rw[HN.out] <;> rfl,HGE.out⟩
            ·have c1:decide ((16:Int)<(m:Int)+1)=false:=decide_eq_false q1
             have Hfew:Hid (onC ts (j+1)≤16):=by show _≤_;rw[tI HX.out.1 HP.out,←Hm.out];omega
             clear q1 hm16
             by_cases q2:h.kd=2
             ·have c2:(h.kd == 2)=true:=by rw[q2];rfl
              have HN:Hid (eV p gs ts F=false):=eR (BK HX.out.1 HX.out.2.1 HP.out (by rw[←Hhx.out.1];exact q2))
              clear q2
              go_wp2_with fail
              go_ret
              exact⟨by rw[HN.out] <;> rfl,HGE.out⟩
             ·have c2:(h.kd == 2)=false:=by simpa using q2
              have Hk:Hid ((atC p gs t.card).1.kd≠2):=by show _≠_;rw[←Hhx.out.1];exact q2
              clear q2
              by_cases q3:t.stamp<1
              ·have c3:decide (t.stamp<1)=true:=decide_eq_true q3
               have HN:Hid (eV p gs ts F=false):=eR (lx HX.out.1 HX.out.2.1 HP.out (wW q3))
               clear q3
               go_wp2_with fail
               go_ret
               exact⟨by rw[HN.out] <;> rfl,HGE.out⟩
              ·have c3:decide (t.stamp<1)=false:=decide_eq_false q3
               obtain⟨gF,oF,cF,eF,rF⟩:=eB (HB.out.2.2.1.keep HGE.out) (show j<F.length by rw[←HL.out];exact HX.out.2.2.1)
               injection eF with eF eF2 eF3
               clear eF2 eF3
               subst eF
               rw[(List.getElem?_eq_some_iff.1 HX.out.2.1).2] at rF
               obtain⟨f0,-,f2,-⟩:=bJ rF
               clear rF
               by_cases q4:f.ho<0
               ·have c4:decide (f.ho<0)=true:=decide_eq_true q4
                have HN:Hid (eV p gs ts F=false):=eR (lx HX.out.1 HX.out.2.1 HP.out (ox (Or.inl q4)))
                clear q3 q4
                go_wp2_with fail
                go_ret
                exact⟨by rw[HN.out] <;> rfl,HGE.out⟩
               ·have c4:decide (f.ho<0)=false:=decide_eq_false q4
                by_cases q5:1<f.ho
                ·have c5:decide (1<f.ho)=true:=decide_eq_true q5
                 have HN:Hid (eV p gs ts F=false):=eR (lx HX.out.1 HX.out.2.1 HP.out (ox (Or.inr q5)))
                 clear q3 q4 q5
                 go_wp2_with fail
                 go_ret
                 exact⟨by rw[HN.out] <;> rfl,HGE.out⟩
                ·have c5:decide (1<f.ho)=false:=decide_eq_false q5
                 have C3:=gk f.tr Z
                 by_cases q6:f.tr<256
                 ·rw[decide_eq_true q6] at C3
                  have HLi:Hid (aY t f=true):=wP HX.out.2.2.2 q3 q4 q5 q6
                  clear q3 q4 q5 q6
                  go_wp2_with fail
                  refine C3.mono ?_
                  rintro e3 w3 ⟨rfl,hw3⟩
                  rw[hw3]
                  clear hw3 w3 C3
                  go_wp2_with fail
                  clear f0 f2 k2 c1 c2 c3 c4 c5 d1 d2 d3 d4 ex e4
                  go_loopw [12] (fun y wr=>∃ (k:Nat),k≤j∧y=.int .i64 (k:Int)∧Hid ((∀ (l:Nat) s,l<k→ts[l]?=some s→s.place=4→s.stamp≠t.stamp)∧Z.grownBy wr none)) (fun y _=>j - (intOf y).toNat)
                  case atStart=>exact⟨0,Nat.zero_le _,rfl,fun _ _ q=>absurd q (Nat.not_lt_zero _),ay _ _⟩
                  case round =>
                   obtain⟨k,hk',rfl,HK⟩:=hrel
                   obtain⟨Q,hQ⟩:∃ Q,Q=wr:=⟨_,rfl⟩
                   subst hQ
                   by_cases hk:k<j
                   ·have k1:(k:Int)<(j:Int):=Int.ofNat_lt.2 hk
                    have kt:(k:Int)<(ts.length:Int):=by omega
                    have hwq:=aW (k:=k) (Nat.le_trans (Nat.le_of_lt hk) (Nat.le_trans (Nat.le_of_lt HX.out.2.2.1) (Nat.le_trans H2.out (by decide))))
                    have HMk:Hid (j - (intOf (.int .i64 ((k:Int)+1))).toNat<j - (intOf (.int .i64 (k:Int))).toNat):=bQ hk
                    have hkt:k<ts.length:=Nat.lt_trans hk HX.out.2.2.1
                    obtain⟨s,hs⟩:∃ s,ts[k]?=some s:=⟨_,List.getElem?_eq_getElem hkt⟩
                    have rS:=oM (HB.out.2.1.keep (aa HGE.out HK.out.2)) hs
                    obtain⟨-,-,s2,s3,-⟩:=dh rS
                    have b3':=HK.out.2.cell b3 (by simp)
                    have Hs:Hid (ts[k]?=some s∧k<j):=⟨hs,hk⟩
                    clear hk hk' rS hs hkt
                    by_cases p1:s.place=4
                    ·have e1:(s.place == 4)=true:=by rw[p1];rfl
                     by_cases p2:s.stamp=t.stamp
                     ·have e2:(s.stamp == t.stamp)=true:=by rw[p2];exact beq_self_eq_true _
                      have HN:Hid (eV p gs ts F=false):=eR (Bn Hs.out.2 Hs.out.1 HX.out.1 p1 HP.out p2)
                      have HGQ:Hid (w.grownBy Q none):=aa HGE.out HK.out.2
                      rw[p1] at s2
                      rw[p2] at s3
                      clear p1 p2 e1 e2
                      go_upto_region 18 with fail
                      go_quiet (fail)
                      go_wp2_with fail
                      go_ret
                      exact⟨by rw[HN.out] <;> rfl,aa HGQ.out (aD _ _ _)⟩
                     ·have e2:(s.stamp == t.stamp)=false:=by simpa using p2
                      have HK2:Hid (∀ (l:Nat) s',l<k+1→ts[l]?=some s'→s'.place=4→s'.stamp≠t.stamp):=fun l s' hl hs' h4'=>by
                       by_cases q:l=k
                       ·subst q
                        rw[Hs.out.1] at hs'
                        cases hs'
                        exact p2
                       ·exact HK.out.1 l s' (by omega) hs' h4'
                      rw[p1] at s2
                      clear p1 p2 e1
                      go_upto_region 18 with fail
                      go_quiet (fail)
                      clear s2 s3 e2 b3'
                      go_wp2_with fail
                      go_roundw
                      case rel=>exact⟨k+1,Hs.out.2,by first | rfl | (rw[hwq];rfl) | go_num,HK2.out,aa HK.out.2 (aD _ _ _)⟩
                      case measure=>first | exact HMk.out | (rw[hwq];exact HMk.out)
                    ·have e1:(s.place == 4)=false:=by simpa using p1
                     have HK2:Hid (∀ (l:Nat) s',l<k+1→ts[l]?=some s'→s'.place=4→s'.stamp≠t.stamp):=fun l s' hl hs' h4'=>by
                      by_cases q:l=k
                      ·subst q
                       rw[Hs.out.1] at hs'
                       cases hs'
                       exact absurd h4' p1
                      ·exact HK.out.1 l s' (by omega) hs' h4'
                     clear p1
                     go_upto_region 18 with fail
                     go_quiet (fail)
                     clear s2 s3 e1 b3'
                     go_wp2_with fail
                     go_roundw
                     case rel=>exact⟨k+1,Hs.out.2,by first | rfl | (rw[hwq];rfl) | go_num,HK2.out,aa HK.out.2 (aD _ _ _)⟩
                     case measure=>first | exact HMk.out | (rw[hwq];exact HMk.out)
                   ·obtain rfl:k=j:=Nat.le_antisymm hk' (Nat.le_of_not_lt hk)
                    have k1:¬(k:Int)<(k:Int):=Int.lt_irrefl _
                    have HF:Hid (TgU (gs.length:Int) (atC p gs) ts F (k+1)∧w.grownBy Q none∧k<ts.length∧onC ts (k+1)=m+1):=⟨HT.out.1.on HX.out.1 HX.out.2.1 HMb.out HLi.out Hk.out Hfew.out HK.out.1,aa HGE.out HK.out.2,HX.out.2.2.1,by rw[tI HX.out.1 HP.out,←Hm.out]⟩
                    clear hk hk'
                    go_wp2_with fail
                    go_roundw
                    case rel=>exact⟨k+1,HF.out.2.2.1,by first | rfl | (rw[hwk];rfl) | go_num,by rw[HF.out.2.2.2];first | rfl | (rw[hwm];rfl) | (simp[hwm]),HF.out.1,HF.out.2.1⟩
                    case measure=>first | exact HM.out | (rw[hwk];exact HM.out)
                 ·rw[decide_eq_false q6] at C3
                  have HN:Hid (eV p gs ts F=false):=eR (lx HX.out.1 HX.out.2.1 HP.out (vM HX.out.2.2.2 q6))
                  clear q3 q4 q5 q6
                  go_wp2_with fail
                  refine C3.mono ?_
                  rintro e3 w3 ⟨rfl,hw3⟩
                  rw[hw3]
                  clear hw3 w3 C3
                  go_wp2_with fail
                  go_ret
                  exact⟨by rw[HN.out] <;> rfl,HGE.out⟩
           ·have e4:(t.place != 4)=true:=by simpa using h4
            have HF:Hid (TgU (gs.length:Int) (atC p gs) ts F (j+1)∧onC ts (j+1)=onC ts j):=⟨HT.out.1.off HX.out.1 h4 HMb.out,vp HX.out.1 h4⟩
            clear h4
            go_wp2_with fail
            go_roundw
            case rel=>exact⟨j+1,HX.out.2.2.1,by first | rfl | (rw[hwk];rfl) | go_num,by rw[HF.out.2],HF.out.1,HGE.out⟩
            case measure=>first | exact HM.out | (rw[hwk];exact HM.out)
      ·have ex:(x != 0)=true:=by simpa using hx
       have HN:Hid (eV p gs ts F=false):=eR (mH HX.out.1 (zk fun q=>hx (by rw[Hhx.out.2];exact(vj Hsh.out.symm).2 q)))
       clear hx
       go_wp2_with fail
       go_ret
       exact⟨by rw[HN.out] <;> rfl,HGE.out⟩
     ·obtain rfl:j=ts.length:=Nat.le_antisymm hj' (Nat.le_of_not_lt hj)
      have j1:¬(ts.length:Int)<(ts.length:Int):=Int.lt_irrefl _
      have HY:Hid (eV p gs ts F=true∧w.grownBy U none):=⟨AW Hsh.out.symm H2.out (HT.out.1.done HL.out),HT.out.2⟩
      clear hj hj' HT
      go_wp2_with fail
      go_ret
      exact⟨by rw[HY.out.1] <;> rfl,HY.out.2⟩
   ·have hl':((F.length:Int) != (ts.length:Int))=true:=by rw[bne_iff_ne];omega
    have HN:Hid (eV p gs ts F=false):=eR (AJ hl)
    clear hl
    go_wp2_with fail
    go_ret
    exact⟨by rw[HN.out] <;> rfl,ay _ _⟩
  ·have h2':decide ((2048:Int)<(ts.length:Int))=true:=decide_eq_true (by omega)
   have HN:Hid (eV p gs ts F=false):=zo h2
   clear h2
   go_wp2_with fail
   go_ret
   exact⟨by rw[HN.out] <;> rfl,ay _ _⟩
end Go.Proofs.YtjmepebbcnhalaaGreat
