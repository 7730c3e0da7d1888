/-
  
-/
import Derived.Test.YtjmepebbcnhalaaGreatWCheck
namespace Go.Proofs.YtjmepebbcnhalaaGreat
set_option maxRecDepth 100000
set_option maxHeartbeats 4000000
open Go.RowKit

theorem aI (u:Bool) (x m:Int) (w:World):Calls Tryz.prog 248 #[.bool u,.int .i64 x,.int .i64 m] w fun e w'=>e=.returned (.bool (br u x m))∧w'=w:=by
 cases u with
 | false =>
  rw[show br false x m=decide (x=0) from rfl]
  by_cases h:x=0
  ·subst h
   go_enter Tryz.func248,Tryz.ntmps248
   go_wp2
   go_ret
   exact⟨rfl,rfl⟩
  ·have hb:=aS h
   rw[decide_eq_false h]
   clear h
   go_enter Tryz.func248,Tryz.ntmps248
   go_wp2
   go_ret
   exact⟨aH (by first | rfl | exact hb),rfl⟩
 | true =>
  rw[show br true x m=(decide (1≤x) && decide (x≤m)) from rfl]
  by_cases h:1≤x
  ·go_enter Tryz.func248,Tryz.ntmps248
   go_wp2
   go_ret
   exact⟨aH (by first | rfl | simp[h]),rfl⟩
  ·go_enter Tryz.func248,Tryz.ntmps248
   go_wp2
   go_ret
   exact⟨aH (by simp;omega),rfl⟩
theorem Cl (v:Int):0≤hi v:=by
 unfold hi
 repeat' split
 all_goals omega
theorem zL (v c:Int):ee v c=(decide (lo v≤c) && decide (c≤hi v) && (decide (0≤lo v) || !decide (c=0))):=by
 have H:=Cl v
 unfold ee
 by_cases h:c=0
 ·subst h
  simp only[if_pos,H,decide_true,Bool.and_true,Bool.not_true,Bool.or_false]
  by_cases h1:lo v=0
  ·simp[h1]
  ·rw[decide_eq_false h1]
   symm
   rw[Bool.and_eq_false_iff]
   rcases (show ¬lo v≤0∨¬0≤lo v from by omega) with h2 | h2
   ·exact Or.inl (decide_eq_false h2)
   ·exact Or.inr (decide_eq_false h2)
 ·simp[h]
theorem bk (p:Pt) (w:World):Calls Tryz.prog 247 #[pv p] w fun e w'=>e=.returned (.bool (ee p.vb p.ct))∧w.grownBy w' none:=by
 unfold pv
 rw[zL]
 by_cases h1:lo p.vb≤p.ct
 ·rw[decide_eq_true h1,Bool.true_and]
  by_cases h2:p.ct≤hi p.vb
  ·rw[decide_eq_true h2,Bool.true_and]
   by_cases h3:0≤lo p.vb
   ·rw[decide_eq_true h3,Bool.true_or]
    go_enter Tryz.func247,Tryz.ntmps247
    go_wp2_with (go_at_call 283;refine(cY _ _).mono ?_;rintro e w1 ⟨rfl,rfl⟩)
    go_ret
    exact⟨aH (by first | rfl | simp),World.grownBy_alloc _ _ _⟩
   ·rw[decide_eq_false h3,Bool.false_or]
    go_enter Tryz.func247,Tryz.ntmps247
    go_wp2_with (go_at_call 283;refine(cY _ _).mono ?_;rintro e w1 ⟨rfl,rfl⟩)
    go_ret
    exact⟨aH (by rw[decide_eq_false (show ¬0≤lo p.vb by omega)];first | rfl | (simp[bne];done) | (simp[bne];rfl)),World.grownBy_alloc _ _ _⟩
  ·rw[decide_eq_false h2,Bool.false_and]
   go_enter Tryz.func247,Tryz.ntmps247
   go_wp2_with (go_at_call 283;refine(cY _ _).mono ?_;rintro e w1 ⟨rfl,rfl⟩)
   go_ret
   exact⟨aH (by first | rfl | simp),World.grownBy_alloc _ _ _⟩
 ·rw[decide_eq_false h1,Bool.false_and,Bool.false_and]
  go_enter Tryz.func247,Tryz.ntmps247
  go_wp2_with (go_at_call 283;refine(cY _ _).mono ?_;rintro e w1 ⟨rfl,rfl⟩)
  go_ret
  exact⟨aH (by first | rfl | simp),World.grownBy_alloc _ _ _⟩

theorem Aq (v:Int):v=6∨v=8∨v=9∨(¬v=6∧¬v=8∧¬v=9):=by omega
theorem fE (m:Int):m=1∨m=2∨m=3∨(¬m=1∧¬m=2∧¬m=3):=by omega
theorem ux (v:Int):cls v=0∨cls v=1∨cls v=2∨cls v=3:=by
 unfold cls
 repeat' split
 all_goals simp
theorem An {v:Int} (h:wnt v=2):v=5:=by
 unfold wnt at h
 repeat' split at h
 all_goals omega
theorem vR {v:Int} (h:wnt v=3):v=6:=by
 unfold wnt at h
 repeat' split at h
 all_goals omega
theorem eP {a b:Int} (h:¬a=b):(a != b)=true:=by simp[bne,h]
theorem cD {a b:Int} (h:a=b):(a != b)=false:=by simp[bne,h]

theorem bD (p:Pt) (w:World) (hk:cls p.vb=wnt p.wn) (h0:¬cls p.vb=0):Calls Tryz.prog 246 #[pv p] w fun e w'=>e=.returned (.bool (abt p.wn p.vb p.wm))∧w.grownBy w' none:=by
 unfold pv
 obtain⟨wn,vb,wm,ct,su,tr,mr,nm⟩:=p
 dsimp only at hk h0 ⊢
 rcases ux vb with c | c | c | c
 ·exact absurd c h0
 ·clear h0 hk
  rcases Aq vb with rfl | rfl | rfl | ⟨h6,h8,h9⟩
  ·have HC:Hid (cls 6=1):=c
   have ha:abP 6=false:=by decide
   clear c
   rcases fE wm with rfl | rfl | rfl | ⟨m1,m2,m3⟩
   ·rw[show abt wn 6 1=abP 6 by simp[abt],ha]
    clear ha
    go_enter Tryz.func246,Tryz.ntmps246
    go_wp2_with (go_at_call 244;refine(aJ _ _).mono ?_;rintro e w1 ⟨rfl,rfl⟩;rw[HC.out])
    go_ret
    exact⟨aH (by first | rfl | simp | (simp;rfl)),World.grownBy_alloc _ _ _⟩
   ·rw[show abt wn 6 2=abP 6 by simp[abt],ha]
    clear ha
    go_enter Tryz.func246,Tryz.ntmps246
    go_wp2_with (go_at_call 244;refine(aJ _ _).mono ?_;rintro e w1 ⟨rfl,rfl⟩;rw[HC.out])
    go_ret
    exact⟨aH (by first | rfl | simp | (simp;rfl)),World.grownBy_alloc _ _ _⟩
   ·rw[show abt wn 6 3=decide (wn=1) from rfl]
    clear ha
    go_enter Tryz.func246,Tryz.ntmps246
    go_wp2_with (go_at_call 244;refine(aJ _ _).mono ?_;rintro e w1 ⟨rfl,rfl⟩;rw[HC.out])
    go_ret
    exact⟨aH (by first | rfl | simp | (simp;rfl)),World.grownBy_alloc _ _ _⟩
   ·rw[show abt wn 6 wm=true by simp[abt,m1,m2,m3]]
    have n3:=eP m3
    replace m1:=aS m1
    replace m2:=aS m2
    replace m3:=aS m3
    clear ha
    go_enter Tryz.func246,Tryz.ntmps246
    go_wp2_with (go_at_call 244;refine(aJ _ _).mono ?_;rintro e w1 ⟨rfl,rfl⟩;rw[HC.out])
    go_ret
    exact⟨aH (by first | rfl | simp | (simp;rfl)),World.grownBy_alloc _ _ _⟩
  ·have HC:Hid (cls 8=1):=c
   have ha:abP 8=false:=by decide
   clear c
   rcases fE wm with rfl | rfl | rfl | ⟨m1,m2,m3⟩
   ·rw[show abt wn 8 1=abP 8 by simp[abt],ha]
    clear ha
    go_enter Tryz.func246,Tryz.ntmps246
    go_wp2_with (go_at_call 244;refine(aJ _ _).mono ?_;rintro e w1 ⟨rfl,rfl⟩;rw[HC.out])
    go_ret
    exact⟨aH (by first | rfl | simp | (simp;rfl)),World.grownBy_alloc _ _ _⟩
   ·rw[show abt wn 8 2=abP 8 by simp[abt],ha]
    clear ha
    go_enter Tryz.func246,Tryz.ntmps246
    go_wp2_with (go_at_call 244;refine(aJ _ _).mono ?_;rintro e w1 ⟨rfl,rfl⟩;rw[HC.out])
    go_ret
    exact⟨aH (by first | rfl | simp | (simp;rfl)),World.grownBy_alloc _ _ _⟩
   ·rw[show abt wn 8 3=decide (wn=1) from rfl]
    clear ha
    go_enter Tryz.func246,Tryz.ntmps246
    go_wp2_with (go_at_call 244;refine(aJ _ _).mono ?_;rintro e w1 ⟨rfl,rfl⟩;rw[HC.out])
    go_ret
    exact⟨aH (by first | rfl | simp | (simp;rfl)),World.grownBy_alloc _ _ _⟩
   ·rw[show abt wn 8 wm=true by simp[abt,m1,m2,m3]]
    have n3:=eP m3
    replace m1:=aS m1
    replace m2:=aS m2
    replace m3:=aS m3
    clear ha
    go_enter Tryz.func246,Tryz.ntmps246
    go_wp2_with (go_at_call 244;refine(aJ _ _).mono ?_;rintro e w1 ⟨rfl,rfl⟩;rw[HC.out])
    go_ret
    exact⟨aH (by first | rfl | simp | (simp;rfl)),World.grownBy_alloc _ _ _⟩
  ·have HC:Hid (cls 9=1):=c
   have ha:abP 9=false:=by decide
   clear c
   rcases fE wm with rfl | rfl | rfl | ⟨m1,m2,m3⟩
   ·rw[show abt wn 9 1=abP 9 by simp[abt],ha]
    clear ha
    go_enter Tryz.func246,Tryz.ntmps246
    go_wp2_with (go_at_call 244;refine(aJ _ _).mono ?_;rintro e w1 ⟨rfl,rfl⟩;rw[HC.out])
    go_ret
    exact⟨aH (by first | rfl | simp | (simp;rfl)),World.grownBy_alloc _ _ _⟩
   ·rw[show abt wn 9 2=abP 9 by simp[abt],ha]
    clear ha
    go_enter Tryz.func246,Tryz.ntmps246
    go_wp2_with (go_at_call 244;refine(aJ _ _).mono ?_;rintro e w1 ⟨rfl,rfl⟩;rw[HC.out])
    go_ret
    exact⟨aH (by first | rfl | simp | (simp;rfl)),World.grownBy_alloc _ _ _⟩
   ·rw[show abt wn 9 3=decide (wn=1) from rfl]
    clear ha
    go_enter Tryz.func246,Tryz.ntmps246
    go_wp2_with (go_at_call 244;refine(aJ _ _).mono ?_;rintro e w1 ⟨rfl,rfl⟩;rw[HC.out])
    go_ret
    exact⟨aH (by first | rfl | simp | (simp;rfl)),World.grownBy_alloc _ _ _⟩
   ·rw[show abt wn 9 wm=true by simp[abt,m1,m2,m3]]
    have n3:=eP m3
    replace m1:=aS m1
    replace m2:=aS m2
    replace m3:=aS m3
    clear ha
    go_enter Tryz.func246,Tryz.ntmps246
    go_wp2_with (go_at_call 244;refine(aJ _ _).mono ?_;rintro e w1 ⟨rfl,rfl⟩;rw[HC.out])
    go_ret
    exact⟨aH (by first | rfl | simp | (simp;rfl)),World.grownBy_alloc _ _ _⟩
  ·have HC:Hid (cls vb=1):=c
   have ha:abP vb=true:=by simp[abP,h6,h8,h9,c]
   replace h6:=aS h6
   replace h8:=aS h8
   replace h9:=aS h9
   clear c
   rcases fE wm with rfl | rfl | rfl | ⟨m1,m2,m3⟩
   ·rw[show abt wn vb 1=abP vb by simp[abt],ha]
    clear ha
    go_enter Tryz.func246,Tryz.ntmps246
    go_wp2_with (go_at_call 244;refine(aJ _ _).mono ?_;rintro e w1 ⟨rfl,rfl⟩;rw[HC.out])
    go_ret
    exact⟨aH (by first | rfl | simp | (simp;rfl)),World.grownBy_alloc _ _ _⟩
   ·rw[show abt wn vb 2=abP vb by simp[abt],ha]
    clear ha
    go_enter Tryz.func246,Tryz.ntmps246
    go_wp2_with (go_at_call 244;refine(aJ _ _).mono ?_;rintro e w1 ⟨rfl,rfl⟩;rw[HC.out])
    go_ret
    exact⟨aH (by first | rfl | simp | (simp;rfl)),World.grownBy_alloc _ _ _⟩
   ·rw[show abt wn vb 3=decide (wn=1) from rfl]
    clear ha
    go_enter Tryz.func246,Tryz.ntmps246
    go_wp2_with (go_at_call 244;refine(aJ _ _).mono ?_;rintro e w1 ⟨rfl,rfl⟩;rw[HC.out])
    go_ret
    exact⟨aH (by first | rfl | simp | (simp;rfl)),World.grownBy_alloc _ _ _⟩
   ·rw[show abt wn vb wm=true by simp[abt,m1,m2,m3]]
    have n3:=eP m3
    replace m1:=aS m1
    replace m2:=aS m2
    replace m3:=aS m3
    clear ha
    go_enter Tryz.func246,Tryz.ntmps246
    go_wp2_with (go_at_call 244;refine(aJ _ _).mono ?_;rintro e w1 ⟨rfl,rfl⟩;rw[HC.out])
    go_ret
    exact⟨aH (by first | rfl | simp | (simp;rfl)),World.grownBy_alloc _ _ _⟩
 ·rw[c] at hk
  have hw:wn=5:=An hk.symm
  subst hw
  clear hk h0
  have HC:Hid (cls vb=2):=c
  have ha:abP vb=false:=by simp[abP,c]
  clear c
  rcases fE wm with rfl | rfl | rfl | ⟨m1,m2,m3⟩
  ·rw[show abt 5 vb 1=abP vb by simp[abt],ha]
   clear ha
   go_enter Tryz.func246,Tryz.ntmps246
   go_wp2_with (go_at_call 244;refine(aJ _ _).mono ?_;rintro e w1 ⟨rfl,rfl⟩;rw[HC.out])
   go_ret
   exact⟨aH (by first | rfl | simp | (simp;rfl)),World.grownBy_alloc _ _ _⟩
  ·rw[show abt 5 vb 2=abP vb by simp[abt],ha]
   clear ha
   go_enter Tryz.func246,Tryz.ntmps246
   go_wp2_with (go_at_call 244;refine(aJ _ _).mono ?_;rintro e w1 ⟨rfl,rfl⟩;rw[HC.out])
   go_ret
   exact⟨aH (by first | rfl | simp | (simp;rfl)),World.grownBy_alloc _ _ _⟩
  ·rw[show abt 5 vb 3=decide (5=1) from rfl]
   clear ha
   go_enter Tryz.func246,Tryz.ntmps246
   go_wp2_with (go_at_call 244;refine(aJ _ _).mono ?_;rintro e w1 ⟨rfl,rfl⟩;rw[HC.out])
   go_ret
   exact⟨aH (by first | rfl | simp | (simp;rfl)),World.grownBy_alloc _ _ _⟩
  ·rw[show abt 5 vb wm=true by simp[abt,m1,m2,m3]]
   have n3:=eP m3
   replace m1:=aS m1
   replace m2:=aS m2
   replace m3:=aS m3
   clear ha
   go_enter Tryz.func246,Tryz.ntmps246
   go_wp2_with (go_at_call 244;refine(aJ _ _).mono ?_;rintro e w1 ⟨rfl,rfl⟩;rw[HC.out])
   go_ret
   exact⟨aH (by first | rfl | simp | (simp;rfl)),World.grownBy_alloc _ _ _⟩
 ·rw[c] at hk
  have hw:wn=6:=vR hk.symm
  subst hw
  clear hk h0
  have HC:Hid (cls vb=3):=c
  have ha:abP vb=true:=by
   have:¬(vb=6∨vb=8∨vb=9):=by
    intro h
    rcases h with rfl | rfl | rfl <;> simp[cls] at c
   simp[abP,this,c]
  clear c
  rcases fE wm with rfl | rfl | rfl | ⟨m1,m2,m3⟩
  ·rw[show abt 6 vb 1=abP vb by simp[abt],ha]
   clear ha
   go_enter Tryz.func246,Tryz.ntmps246
   go_wp2_with (go_at_call 244;refine(aJ _ _).mono ?_;rintro e w1 ⟨rfl,rfl⟩;rw[HC.out])
   go_ret
   exact⟨aH (by first | rfl | simp | (simp;rfl)),World.grownBy_alloc _ _ _⟩
  ·rw[show abt 6 vb 2=abP vb by simp[abt],ha]
   clear ha
   go_enter Tryz.func246,Tryz.ntmps246
   go_wp2_with (go_at_call 244;refine(aJ _ _).mono ?_;rintro e w1 ⟨rfl,rfl⟩;rw[HC.out])
   go_ret
   exact⟨aH (by first | rfl | simp | (simp;rfl)),World.grownBy_alloc _ _ _⟩
  ·rw[show abt 6 vb 3=decide (6=1) from rfl]
   clear ha
   go_enter Tryz.func246,Tryz.ntmps246
   go_wp2_with (go_at_call 244;refine(aJ _ _).mono ?_;rintro e w1 ⟨rfl,rfl⟩;rw[HC.out])
   go_ret
   exact⟨aH (by first | rfl | simp | (simp;rfl)),World.grownBy_alloc _ _ _⟩
  ·rw[show abt 6 vb wm=true by simp[abt,m1,m2,m3]]
   have n3:=eP m3
   replace m1:=aS m1
   replace m2:=aS m2
   replace m3:=aS m3
   clear ha
   go_enter Tryz.func246,Tryz.ntmps246
   go_wp2_with (go_at_call 244;refine(aJ _ _).mono ?_;rintro e w1 ⟨rfl,rfl⟩;rw[HC.out])
   go_ret
   exact⟨aH (by first | rfl | simp | (simp;rfl)),World.grownBy_alloc _ _ _⟩

theorem jk (s:ByteArray) (w:World):Calls Tryz.prog 249 #[.string s] w fun e w'=>e=.returned (.bool (aR s.data.toList))∧w'=w:=by
 have HL:Hid (s.data.toList.length=s.size):=(Lib.size_eq s).symm
 by_cases h0:s.size=0
 ·have hb:(s.size:Int)<1:=by omega
  rw[show s.data.toList=[] from List.eq_nil_of_length_eq_zero (by rw[HL.out];exact h0)]
  clear h0
  go_enter Tryz.func249,Tryz.ntmps249
  go_wp2
  go_ret
  exact⟨rfl,rfl⟩
 ·have hb:¬(s.size:Int)<1:=by omega
  by_cases h1:20<s.size
  ·have hb1:(20:Int)<(s.size:Int):=by omega
   rw[gg (by rw[HL.out];exact h1)]
   clear h0 h1
   go_enter Tryz.func249,Tryz.ntmps249
   go_wp2
   go_ret
   exact⟨rfl,rfl⟩
  ·have hb1:¬(20:Int)<(s.size:Int):=by omega
   have hp:0<s.size:=by omega
   have B0:Hid (s.data.toList[0]?=some s[0]):=gd s 0 hp
   have H1:Hid (s.data.toList.length≤20):=by rw[Hid,HL.out];omega
   clear h0 h1
   by_cases hc:s[0]=45
   ·have hq:((s[0].toNat:Int) == 45)=true:=by simp[hc]
    rw[dX B0.out (by rw[hc];rfl)]
    clear hc
    go_enter Tryz.func249,Tryz.ntmps249
    go_wp2
    go_ret
    exact⟨rfl,rfl⟩
   ·have hq:((s[0].toNat:Int) == 45)=false:=by
     have:¬(s[0].toNat:Int)=45:=fun e=>hc (UInt8.toNat_inj.1 (by simpa using (by omega:s[0].toNat=45)))
     simpa using this
    have HC:Hid (¬s[0]=45):=hc
    clear hc
    go_enter Tryz.func249,Tryz.ntmps249
    go_wp2
    go_loopw [3] (fun t wr=>wr=w∧∃ i:Nat,i≤s.size∧t=.int .i64 i∧∀ j x,j<i→s.data.toList[j]?=some x→okb x=true) (fun t _=>s.size - (intOf t).toNat)
    case atStart=>exact⟨rfl,0,Nat.zero_le _,rfl,fun j x hj=>absurd hj (by omega)⟩
    case round =>
     obtain⟨rfl,i,hi,rfl,ha⟩:=hrel
     have HA:Hid (∀ j x,j<i→s.data.toList[j]?=some x→okb x=true):=ha
     clear ha
     by_cases hl:i<s.size
     ·have hl':(i:Int)<(s.size:Int):=by omega
      have BI:Hid (s.data.toList[i]?=some s[i]):=gd s i hl
      by_cases a:(s[i].toNat:Int)<97
      ·by_cases hd:s[i]=45
       ·have hq:((s[i].toNat:Int) != 45)=false:=by simp[hd]
        have HN:Hid (okb s[i]=true):=by simp[Hid,okb,hd]
        clear hd
        go_wp2
        go_roundw
        case rel=>exact⟨trivial,i+1,by omega,by go_num,fun j x hj hx=>by
         rcases (show j<i∨j=i from by omega) with h' | rfl
         ·exact HA.out j x h' hx
         ·rw[BI.out] at hx;cases hx;exact HN.out⟩
        case measure=>simp[intOf];omega
       ·have hq:((s[i].toNat:Int) != 45)=true:=by
         have:¬(s[i].toNat:Int)=45:=fun e=>hd (UInt8.toNat_inj.1 (by simpa using (by omega:s[i].toNat=45)))
         exact eP this
        have HN:Hid (okb s[i]=false):=by
         have:¬97≤s[i].toNat:=by omega
         simp[Hid,okb,bB,this,hd]
        clear hd
        go_wp2
        go_ret
        exact⟨aH (dZ BI.out HN.out).symm,rfl⟩
      ·by_cases a':(122:Int)<(s[i].toNat:Int)
       ·have hd:¬s[i]=45:=by
         intro h
         rw[h] at a'
         exact absurd a' (by decide)
        have hq:((s[i].toNat:Int) != 45)=true:=eP (by omega)
        have HN:Hid (okb s[i]=false):=by
         have:¬s[i].toNat≤122:=by omega
         simp[Hid,okb,bB,this,hd]
        clear hd
        go_wp2
        go_ret
        exact⟨aH (dZ BI.out HN.out).symm,rfl⟩
       ·have HN:Hid (okb s[i]=true):=by
         have h1:97≤s[i].toNat:=by omega
         have h2:s[i].toNat≤122:=by omega
         simp[Hid,okb,bB,h1,h2]
        go_wp2
        go_roundw
        case rel=>exact⟨trivial,i+1,by omega,by go_num,fun j x hj hx=>by
         rcases (show j<i∨j=i from by omega) with h' | rfl
         ·exact HA.out j x h' hx
         ·rw[BI.out] at hx;cases hx;exact HN.out⟩
        case measure=>simp[intOf];omega
     ·have hl':¬(i:Int)<(s.size:Int):=by omega
      have HY:Hid (aR s.data.toList=true):=by
       have ALL:∀ (j:Nat) x,s.data.toList[j]?=some x→okb x=true:=fun j x hx=>HA.out j x (by
        have:=(List.getElem?_eq_some_iff.1 hx).1
        rw[HL.out] at this
        omega) hx
       have L0:bB s[0]=true:=by
        have:=ALL 0 _ B0.out
        simpa [okb,HC.out] using this
       exact jO B0.out L0 H1.out ALL
      go_wp2
      go_ret
      exact⟨aH HY.out.symm,rfl⟩

end Go.Proofs.YtjmepebbcnhalaaGreat
