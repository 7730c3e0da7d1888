import Derived.Test.YtjmepebbcnhalaaGreatZRChk2
namespace Go.Proofs.YtjmepebbcnhalaaGreat
open Tryz
set_option maxHeartbeats 2000000
open Go.RowKit
variable {a:Int} {p:Pl}
theorem tY (s:ByteArray) (w:World):Calls prog 181 #[.string s] w fun e w'=>e=.returned (.bool (aS s.data.toList))∧w'=w:=by
 have HL:QH (s.data.toList.length=s.size):=(Lib.size_eq s).symm;by_cases h0:s.size=0
 ·have hb:(s.size:Int)<1:=by omega
  rw[show s.data.toList=[] from Qay (by rw[HL.o];exact h0)];clear h0;go_enter func181,ntmps181;go_wp2;go_ret;exact⟨rfl,rfl⟩
 ·have hb:¬(s.size:Int)<1:=by omega
  by_cases h1:20<s.size
  ·have hb1:(20:Int)<(s.size:Int):=(by omega);rw[ij (by rw[HL.o];exact h1)];clear h0 h1;go_enter func181,ntmps181;go_wp2;go_ret;exact⟨rfl,rfl⟩
  ·have hb1:¬(20:Int)<(s.size:Int):=(by omega);have hp:0<s.size:=(by omega);have B0:QH (s.data.toList[0]?=some s[0]):=ig s 0 hp;have H1:QH (s.data.toList.length≤20):=(by rw[QH,HL.o];omega);clear h0 h1;by_cases hc:s[0]=45
   ·have hq:((s[0].toNat:Int) == 45)=true:=(by simp[hc]);rw[eX B0.o (by rw[hc];rfl)];clear hc;go_enter func181,ntmps181;go_wp2;go_ret;exact⟨rfl,rfl⟩
   ·have hq:((s[0].toNat:Int) == 45)=false:=by
     have:¬(s[0].toNat:Int)=45:=fun e=>hc (UInt8.toNat_inj.1 (by simpa using (by omega:s[0].toNat=45)));simpa using this
    have HC:QH (¬s[0]=45):=hc;clear hc;go_enter func181,ntmps181;go_wp2;go_loopw [3] (fun t wr=>wr=w∧∃ i:Nat,i≤s.size∧t=.int .i64 i∧∀ j x,j<i→s.data.toList[j]?=some x→okb x=true) (fun t _=>s.size - (intOf t).toNat)
    case atStart=>exact⟨rfl,0,Q0 _,rfl,fun j x hj=>absurd hj (by omega)⟩
    case round =>
     obtain⟨rfl,i,hi,rfl,ha⟩:=hrel;have HA:QH (∀ j x,j<i→s.data.toList[j]?=some x→okb x=true):=ha;clear ha;by_cases hl:i<s.size
     ·have hl':(i:Int)<(s.size:Int):=(by omega);have BI:QH (s.data.toList[i]?=some s[i]):=ig s i hl;by_cases a:(s[i].toNat:Int)<97
      ·by_cases hd:s[i]=45
       ·have hq:((s[i].toNat:Int) != 45)=false:=(by simp[hd]);have HN:QH (okb s[i]=true):=(by simp[QH,okb,hd]);clear hd;go_wp2;go_roundw
        case rel=>exact⟨trivial,i+1,by omega,by go_num,fun j x hj hx=>by
         rcases (show j<i∨j=i from by omega) with h' | rfl
         ·exact HA.o j x h' hx
         ·rw[BI.o] at hx;cases hx;exact HN.o⟩
        case measure=>simp[intOf];omega
       ·have hq:((s[i].toNat:Int) != 45)=true:=by
         have:¬(s[i].toNat:Int)=45:=fun e=>hd (UInt8.toNat_inj.1 (by simpa using (by omega:s[i].toNat=45)));exact fJ this
        have HN:QH (okb s[i]=false):=by
         have:¬97≤s[i].toNat:=(by omega);simp[QH,okb,bU,this,hd]
        clear hd;go_wp2;go_ret;exact⟨aL (fj BI.o HN.o).symm,rfl⟩
      ·by_cases a':(122:Int)<(s[i].toNat:Int)
       ·have hd:¬s[i]=45:=by
         intro h;rw[h] at a';exact absurd a' (by decide)
        have hq:((s[i].toNat:Int) != 45)=true:=fJ (by omega)
        have HN:QH (okb s[i]=false):=by
         have:¬s[i].toNat≤122:=(by omega);simp[QH,okb,bU,this,hd]
        clear hd;go_wp2;go_ret;exact⟨aL (fj BI.o HN.o).symm,rfl⟩
       ·have HN:QH (okb s[i]=true):=by
         have h1:97≤s[i].toNat:=(by omega);have h2:s[i].toNat≤122:=(by omega);simp[QH,okb,bU,h1,h2]
        go_wp2;go_roundw
        case rel=>exact⟨trivial,i+1,by omega,by go_num,fun j x hj hx=>by
         rcases (show j<i∨j=i from by omega) with h' | rfl
         ·exact HA.o j x h' hx
         ·rw[BI.o] at hx;cases hx;exact HN.o⟩
        case measure=>simp[intOf];omega
     ·have hl':¬(i:Int)<(s.size:Int):=by omega
      have HY:QH (aS s.data.toList=true):=by
       have ALL:∀ (j:Nat) x,s.data.toList[j]?=some x→okb x=true:=fun j x hx=>HA.o j x (by
        have:=(Qh hx).1;rw[HL.o] at this
        omega) hx
       have L0:bU s[0]=true:=by
        have:=ALL 0 _ B0.o;simpa [okb,HC.o] using this
       exact l4 B0.o L0 H1.o ALL
      go_wp2;go_ret;exact⟨aL HY.o.symm,rfl⟩

def wB (n a b:Int):Bool:=decide (a≤n) && decide (n≤b)
theorem ft (n a b:Int) (w:World):Calls prog 182 #[.int .i64 n,.int .i64 a,.int .i64 b] w fun e w'=>e=.returned (.bool (wB n a b))∧w'=w:=by
 by_cases h:a≤n
 ·have e:wB n a b=decide (n≤b):=by simp[wB,h]
  rw[e];clear e;go_enter func182,ntmps182;go_wp2;go_ret;exact⟨rfl,rfl⟩
 ·have e:wB n a b=false:=by simp[wB,h]
  rw[e];clear e;go_enter func182,ntmps182;go_wp2;go_ret;exact⟨rfl,rfl⟩
theorem ic (s:Int) (w:World):Calls prog 183 #[.int .u16 s] w fun e w'=>e=.returned (.bool (decide (s<256)))∧w'=w:=by
 go_enter func183,ntmps183;go_wp2;go_ret;exact⟨rfl,rfl⟩
set_option maxHeartbeats 2000000 in
theorem py (s : ByteArray) (w : World) : Calls prog 125 #[.string s] w fun e w' => e = .returned (.bool (aS s.data.toList)) ∧ w' = w := by
  have HL : QH (s.data.toList.length = s.size) := (Lib.size_eq s).symm;by_cases h0 : s.size = 0
  · have hb : (s.size : Int) < 1 := by omega
    rw [show s.data.toList = [] from Qay (by rw [HL.o]; exact h0)];clear h0;go_enter func125, ntmps125;go_wp2;go_ret;exact ⟨rfl, rfl⟩
  · have hb : ¬ (s.size : Int) < 1 := by omega
    by_cases h1 : 20 < s.size
    · have hb1 : (20 : Int) < (s.size : Int) := by omega
      rw [ij (by rw [HL.o]; exact h1)];clear h0 h1;go_enter func125, ntmps125;go_wp2;go_ret;exact ⟨rfl, rfl⟩
    · have hb1 : ¬ (20 : Int) < (s.size : Int) := by omega
      have hp : 0 < s.size := by omega
      have B0 : QH (s.data.toList[0]? = some s[0]) := ig s 0 hp;have H1 : QH (s.data.toList.length ≤ 20) := by rw [QH, HL.o]; omega
      clear h0 h1;by_cases hc : (s[0].toNat : Int) < 97
      · rw [eX B0.o (by have : ¬ 97 ≤ s[0].toNat := (by omega); simp [bU, this])]
        go_enter func125, ntmps125;go_wp2;go_ret;exact ⟨rfl, rfl⟩
      by_cases hd : (122 : Int) < (s[0].toNat : Int)
      · rw [eX B0.o (by have : ¬ s[0].toNat ≤ 122 := (by omega); simp [bU, this])]
        go_enter func125, ntmps125;go_wp2;go_ret;exact ⟨rfl, rfl⟩
      · have HC : QH (bU s[0] = true) := by
          have h1 : 97 ≤ s[0].toNat := by omega
          have h2 : s[0].toNat ≤ 122 := by omega
          simp [QH, bU, h1, h2]
        go_enter func125, ntmps125;go_wp2;go_loopw [3] (fun t wr => wr = w ∧ ∃ i : Nat, i ≤ s.size ∧ t = .int .i64 i ∧ ∀ j x, j < i → s.data.toList[j]? = some x → okb x = true) (fun t _ => s.size - (intOf t).toNat)
        case atStart => exact ⟨rfl, 0, Q0 _, rfl, fun j x hj => absurd hj (by omega)⟩
        case round =>
          obtain ⟨rfl, i, hi, rfl, ha⟩ := hrel;have HA : QH (∀ j x, j < i → s.data.toList[j]? = some x → okb x = true) := ha;clear ha;by_cases hl : i < s.size
          · have hl' : (i : Int) < (s.size : Int) := by omega
            have BI : QH (s.data.toList[i]? = some s[i]) := ig s i hl;by_cases a : (s[i].toNat : Int) < 97
            · by_cases hd : s[i] = 45
              · have hq : ((s[i].toNat : Int) != 45) = false := by simp [hd]
                have HN : QH (okb s[i] = true) := by simp [QH, okb, hd]
                clear hd;go_wp2;go_roundw
                case rel => exact ⟨trivial, i + 1, by omega, by go_num, fun j x hj hx => by
                  rcases (show j < i ∨ j = i from by omega) with h' | rfl
                  · exact HA.o j x h' hx
                  · rw [BI.o] at hx; cases hx; exact HN.o⟩
                case measure => simp [intOf]; omega
              · have hq : ((s[i].toNat : Int) != 45) = true := by
                  have : ¬ (s[i].toNat : Int) = 45 := fun e => hd (UInt8.toNat_inj.1 (by simpa using (by omega : s[i].toNat = 45)));exact fJ this
                have HN : QH (okb s[i] = false) := by
                  have : ¬ 97 ≤ s[i].toNat := by omega
                  simp [QH, okb, bU, this, hd]
                clear hd;go_wp2;go_ret;exact ⟨aL (fj BI.o HN.o).symm, rfl⟩
            · by_cases a' : (122 : Int) < (s[i].toNat : Int)
              · have hd : ¬ s[i] = 45 := by
                  intro h;rw [h] at a';exact absurd a' (by decide)
                have hq : ((s[i].toNat : Int) != 45) = true := fJ (by omega)
                have HN : QH (okb s[i] = false) := by
                  have : ¬ s[i].toNat ≤ 122 := by omega
                  simp [QH, okb, bU, this, hd]
                clear hd;go_wp2;go_ret;exact ⟨aL (fj BI.o HN.o).symm, rfl⟩
              · have HN : QH (okb s[i] = true) := by
                  have h1 : 97 ≤ s[i].toNat := by omega
                  have h2 : s[i].toNat ≤ 122 := by omega
                  simp [QH, okb, bU, h1, h2]
                go_wp2;go_roundw
                case rel => exact ⟨trivial, i + 1, by omega, by go_num, fun j x hj hx => by
                  rcases (show j < i ∨ j = i from by omega) with h' | rfl
                  · exact HA.o j x h' hx
                  · rw [BI.o] at hx; cases hx; exact HN.o⟩
                case measure => simp [intOf]; omega
          · have hl' : ¬ (i : Int) < (s.size : Int) := by omega
            have HY : QH (aS s.data.toList = true) := by
              have ALL : ∀ (j : Nat) x, s.data.toList[j]? = some x → okb x = true := fun j x hx => HA.o j x (by
                have := (Qh hx).1;rw [HL.o] at this
                omega) hx
              have L0 : bU s[0] = true := HC.o;exact l4 B0.o L0 H1.o ALL
            go_wp2;go_ret;exact ⟨aL HY.o.symm, rfl⟩

def rE (v : Value) (p : Pl) : List Value := .bool true :: .bool p.shut :: v :: (p.nms.map Value.string ++ gg p.mks)
structure RJ (w : World) (b : Nat) (v : Value) (p : Pl) : Prop where
  lies : w.heap[b]? = some (.cells (rE v p).toArray 198 (0, 0))
  nine : p.nms.length = 9
  five : p.mks.length = 5
theorem RJ.keepR {w w': World} {b: Nat} {v: Value} {p: Pl} {r: Option Nat} (h : RJ w b v p) (g : w.grownBy w' r) (hr : some b ≠ r) : RJ w' b v p := ⟨ag g h.lies hr, h.nine, h.five⟩
theorem RJ.keep {w w': World} {b: Nat} {v: Value} {p: Pl} (h : RJ w b v p) (g : w.grownBy w' none) : RJ w' b v p := h.keepR g (by simp)
theorem RJ.made {w: World} {b: Nat} {v: Value} {p: Pl} (h : RJ w b v p) : w.cell? ⟨b, 0, none⟩ = some (.bool true) := ae h.lies 0
theorem RJ.shut {w: World} {b: Nat} {v: Value} {p: Pl} (h : RJ w b v p) : w.cell? ⟨b, 1, none⟩ = some (.bool p.shut) := ae h.lies 1
theorem RJ.list {w: World} {b: Nat} {v: Value} {p: Pl} (h : RJ w b v p) : w.cell? ⟨b, 2, none⟩ = some v := ae h.lies 2
theorem RJ.free {w: World} {b: Nat} {v: Value} {p: Pl} (h : RJ w b v p) (i : Nat) : w.frozen? ⟨b, i, none⟩ = false := aq h.lies i
theorem RJ.name {w: World} {b: Nat} {v: Value} {p: Pl} (h : RJ w b v p) {t : Nat} {s : ByteArray} (ht : p.nms[t]? = some s) : w.cell? ⟨b, 3 + t, none⟩ = some (.string s) := by
  have hl : t < p.nms.length := (Qh ht).1;rw [ae h.lies, Qbc];unfold rE;rw [show 3 + t = t + 1 + 1 + 1 by omega, Qaj, Qaj, Qaj, Qb1 (by simpa using hl), Qak, ht];rfl
theorem RJ.mark {w: World} {b: Nat} {v: Value} {p: Pl} (h : RJ w b v p) {t : Nat} {m : Mk} (ht : p.mks[t]? = some m) : M4 w b (12 + t * 4) m := by
  have at_ : ∀ k u, k < 4 → (mvs m)[k]? = some u → w.cell? ⟨b, 12 + t * 4 + k, none⟩ = some u := fun k u hk hu => by
    rw [ae h.lies, Qbc];unfold rE;rw [show 12 + t * 4 + k = 9 + (t * 4 + k) + 1 + 1 + 1 by omega, Qaj, Qaj, Qaj, Qap (by simp [h.nine]), Qa9, h.nine, show 9 + (t * 4 + k) - 9 = t * 4 + k by omega, lz _ _ _ ht k hk];exact hu
  exact ⟨at_ 0 _ (by omega) rfl, at_ 1 _ (by omega) rfl, at_ 2 _ (by omega) rfl, at_ 3 _ (by omega) rfl⟩
def RL (w : World) (v : Value) (fs : List Ent) : Prop := (v = .slice none 0 0 ∧ fs = []) ∨ ∃ g cap, v = .slice (some ⟨g, 0, none⟩) fs.length cap ∧ mI w g 0 fs
theorem RL.keep {w w': World} {v: Value} {fs: List Ent} (h : RL w v fs) (g : w.grownBy w' none) : RL w' v fs := by
  rcases h with h | ⟨x, c, e, k⟩
  · exact Or.inl h
  · exact Or.inr ⟨x, c, e, k.keep g⟩
theorem C9.keepR {w w': World} {g o: Nat} {h: Hd} {v: Value} {r: Option Nat} (k : C9 w g o h v) (hg : w.grownBy w' r) (hr : some g ≠ r) : C9 w' g o h v :=
  ⟨hg.cell k.c0 hr, hg.cell k.c1 hr, hg.cell k.c2 hr, hg.cell k.c3 hr, hg.cell k.c4 hr, hg.cell k.c5 hr, hg.cell k.c6 hr, hg.cell k.c7 hr, hg.cell k.c8 hr⟩
theorem RL.keepR {w w': World} {v: Value} {fs: List Ent} {r: Option Nat} (h : RL w v fs) (g : w.grownBy w' r) (hr : ∀ k, v.ownBlock = some k → some k ≠ r) : RL w' v fs := by
  rcases h with h | ⟨x, c, rfl, k⟩
  · exact Or.inl h
  · exact Or.inr ⟨x, c, rfl, fun j e he => (k j e he).keepR g (hr x rfl)⟩
theorem RL.form {w: World} {v: Value} {fs: List Ent} (h : RL w v fs) : ∃ a c, v = .slice a fs.length c := by
  rcases h with ⟨rfl, rfl⟩ | ⟨x, c, rfl, _⟩
  · exact ⟨_, _, rfl⟩
  · exact ⟨_, _, rfl⟩
theorem RL.row {w: World} {v: Value} {fs: List Ent} (h : RL w v fs) (h0 : 0 < fs.length) : ∃ g c, v = .slice (some ⟨g, 0, none⟩) fs.length c ∧ ∀ (j : Nat) e, fs[j]? = some e → C9 w g (j * 9) e.h e.v := by
  rcases h with ⟨rfl, rfl⟩ | ⟨x, c, rfl, k⟩
  · simp at h0
  · exact ⟨x, c, rfl, fun j e he => by have := k j e he; rw [Qa8] at this; exact this⟩
def rbA : Array Value := (rE (.slice none 0 0) iQ).toArray
theorem ux (w : World) : (Instr.build 198 #[(0, .bool true)]).run prog w = .ok (.agg rbA) w := by kernel_rfl
theorem zb (cs : Array Value) (w : World) : (Instr.box 198 (.agg cs)).run prog w = .ok (.pointer (some ⟨w.heap.size, 0, none⟩)) (w.alloc (.cells cs 198)) := rfl
set_option maxRecDepth 100000 in
theorem DS (w : World) : Calls prog 49 #[] w fun e w' => e = .returned (.pointer (some ⟨w.heap.size, 0, none⟩)) ∧ RJ w' w.heap.size (.slice none 0 0) iQ ∧ w.grownBy w' none ∧ w'.heap.size = w.heap.size + 1 := by
  go_enter func49, ntmps49;go_wp2_with (first | (refine lu ?g 198 #[(0, .const (.bool true))] ?ho #[(0, .bool true)] ?hv (.agg rbA) (ux _) ?_; (case g => rfl); (case ho => rfl); (case hv => simp [Act.eval])) | (refine yS ?g 198 (.tmp 1) ?ho (.agg rbA) ?hv _ (zb rbA _) ?_; (case g => rfl); (case ho => rfl); (case hv => simp [Act.eval])) | fail)
  go_ret;refine ⟨rfl, ⟨?_, rfl, rfl⟩, Qa0 w _ none, by simp⟩;exact aj w rbA 198
set_option maxHeartbeats 1000000 in
theorem bA (b : Nat) (v : Value) (p : Pl) (w : World) (R : RJ w b v p) : Calls prog 116 #[.pointer (some ⟨b, 0, none⟩)] w fun e w' => e = .returned (.bool false) ∧ w' = w := by
  have c := R.made;clear R;go_enter func116, ntmps116;go_wp2;go_ret;exact ⟨rfl, rfl⟩
set_option maxHeartbeats 1000000 in
theorem fW (b : Nat) (v : Value) (p : Pl) (w : World) (R : RJ w b v p) : Calls prog 58 #[.pointer (some ⟨b, 0, none⟩)] w fun e w' => e = .returned (.bool p.shut) ∧ w' = w := by
  have HR : QH (RJ w b v p) := R;have c := R.shut;clear R;go_enter func58, ntmps58;go_wp2_with fail;refine (bA b v p w HR.o).mono ?_;rintro e w1 ⟨rfl, h1⟩;obtain rfl : w = w1 := h1.symm;go_wp2;go_ret;exact ⟨rfl, rfl⟩
set_option maxRecDepth 100000 in
set_option maxHeartbeats 2000000 in
theorem oo (b : Nat) (v : Value) (p : Pl) (fs : List Ent) (s : ByteArray) (w : World) (R : RJ w b v p) (L : RL w v fs) (hl : fs.length ≤ 64) : Calls prog 118 #[.pointer (some ⟨b, 0, none⟩), .string s] w fun e w' => e = .returned (.int .i64 (pos (bL fs) s)) ∧ w' = w := by
  have c := R.list;have HL : QH (RL w v fs) := L;obtain ⟨a, k, rfl⟩ := L.form;have hsm : bl fs.length := by unfold bl; omega
  clear R L;go_enter func118, ntmps118;go_wp2_with fail;go_loopw [5] (fun x5 wr => wr = w ∧ ∃ i : Nat, i ≤ fs.length ∧ x5 = .int .i64 (i : Int) ∧ ir fs s i) (fun x5 _ => fs.length - (intOf x5).toNat)
  case atStart => exact ⟨rfl, 0, Q0 _, rfl, fun j e hj => absurd hj (by omega)⟩
  case round =>
    obtain ⟨rfl, i, hi, rfl, hN⟩ := hrel;have HN : QH (ir fs s i) := hN;clear hN
    rcases (show i < fs.length ∨ i = fs.length from by omega) with hil | hie
    · have i0 : (0 : Int) ≤ (i : Int) := by omega
      have i1 : (i : Int) < (fs.length : Int) := by omega
      obtain ⟨g, cap, ev, hrow⟩ := HL.o.row (by omega);injection ev with e1 _ e3;subst e1;subst e3;obtain ⟨e, he⟩ : ∃ e, fs[i]? = some e := ⟨_, Qg hil⟩
      have c0 := (hrow i e he).c0;by_cases hs : e.h.nm = s
      · have hq := iI hs
        have HP : QH (pos (bL fs) s = (i : Int)) := qc HN.o he hs;clear hrow he hs hi;go_wp2;go_ret;exact ⟨aO HP.o.symm, rfl⟩
      · have hq := jg hs
        have HN2 : QH (ir fs s (i + 1)) := mg HN.o he hs;clear hrow he hs hi;go_wp2_with fail;go_roundw
        case rel => exact ⟨by first | rfl | trivial, i + 1, hil, by first | rfl | (rw [hsm.wrap hil]; rfl), HN2.o⟩
        case measure => first | exact aD hil | (rw [hsm.wrap hil]; exact aD hil)
    · have i1 : ¬ (i : Int) < (fs.length : Int) := by omega
      have HP : QH (pos (bL fs) s = -1) := nZ (by rw [← hie]; exact HN.o);clear hie hi;go_wp2;go_ret;exact ⟨aO HP.o.symm, rfl⟩
theorem wt:aS (ByteArray.mk #[]).data.toList=false:=rfl
set_option maxRecDepth 100000
def MkD (p:Pl):Prop:=p.mks[0]?=some Mk.none∧∀ m∈p.mks,m=Mk.none∨(¬m.mi=0∧¬m.nm=⟨#[]⟩)
theorem i7 (b:Nat) (v:Value) (p:Pl) (t:Nat) (w:World) (R:RJ w b v p) (ht:t≤255) (hD:MkD p):Calls prog 226 #[.pointer (some ⟨b,0,none⟩),.int .u8 (t:Int)] w fun e w'=>e=.returned (.tuple #[mv (moM p (t:Int)),.bool (moB p (t:Int))])∧w.grownBy w' none:=by
 obtain⟨W1,hW1⟩:=Qe (w.alloc (.cells #[.int .u8 0,.string ⟨#[]⟩,.int .i64 0,.int .i64 0] 115));have HG1:QH (w.grownBy W1 none):=by rw[hW1];exact QG
 have A:W1.heap[w.heap.size]?=some (.cells #[.int .u8 0,.string ⟨#[]⟩,.int .i64 0,.int .i64 0] 115 (0,0)):=by rw[hW1];exact aj w #[.int .u8 0,.string ⟨#[]⟩,.int .i64 0,.int .i64 0] 115
 have HR:QH (RJ W1 b v p):=R.keep HG1.o;have c0:=ae A 0;have c1:=ae A 1;have c2:=ae A 2;have c3:=ae A 3;have cf:=fun i=>aq A i;clear A R;by_cases hr:t<1∨4<t
 ·have e1:moM p (t:Int)=Mk.none:=by
   unfold moM;by_cases h9:(t:Int)<5
   ·rw[if_pos h9,show (t:Int).toNat=0 by omega,Qa2,hD.1];rfl
   ·rw[if_neg h9]
  have e2:moB p (t:Int)=false:=by unfold moB;rw[e1];rfl
  rw[e1,e2];clear e1 e2 hD
  rcases (show (t:Int)<1∨(¬(t:Int)<1∧(4:Int)<(t:Int)) by omega) with h | ⟨h,h'⟩
  all_goals
   clear hr;go_enter func226,ntmps226;go_upto_region 1 with fail;rw[←hW1];clear hW1;go_wp2_with (first | (go_at_call 116;refine(bA b _ p _ HR.o).mono ?_;rintro e w1 ⟨rfl,h1⟩;obtain rfl:W1=w1:=h1.symm) | fail)
   refine bodyPost_ret (v:=.tuple #[mv Mk.none,.bool false]) (by simp[results,results226,go_sem,mv,Mk.none,c0,c1,c2,c3]) rfl ⟨rfl,?_⟩;exact ak HG1.o ((((al _ _ _ _).trans (al _ _ _ _)).trans (al _ _ _ _)).trans (al _ _ _ _)) (fun x e=>by cases e;exact Qj _)
 ·have t1:¬(t:Int)<1:=by omega
  have t4:¬(4:Int)<(t:Int):=by omega
  have t0:(0:Int)≤(t:Int):=by omega
  have t5:(t:Int)<5:=by omega
  obtain⟨m,hm⟩:∃ m,p.mks[t]?=some m:=⟨_,Qg (by rw[HR.o.five];omega)⟩
  have e1:moM p (t:Int)=m:=by unfold moM;rw[if_pos t5,Qc3,Qa2,hm];rfl
  have e2:moB p (t:Int)=!decide (m.nm=⟨#[]⟩):=by unfold moB;rw[e1]
  have hd:=hD.2 m (Qm hm);obtain⟨d0,d1,d2,d3⟩:=HR.o.mark hm;rw[e1,e2];clear e1 e2 hm hD hr ht;obtain⟨mi,nm,po,he⟩:=m;simp only at d0 d1 d2 d3 hd ⊢;by_cases hq:nm=⟨#[]⟩
  ·have hN:(⟨mi,nm,po,he⟩:Mk)=Mk.none:=by
    rcases hd with h | h
    ·exact h
    ·exact absurd hq h.2
   rw[Qy hq,hN];unfold Mk.none at hN;injection hN with h1 h2 h3 h4;subst h1 h2 h3 h4;clear hd hq;go_enter func226,ntmps226;go_upto_region 1 with fail;rw[←hW1];clear hW1;go_wp2_with (first | (go_at_call 116;refine(bA b _ p _ HR.o).mono ?_;rintro e w1 ⟨rfl,h1⟩;obtain rfl:W1=w1:=h1.symm) | fail)
   refine bodyPost_ret (v:=.tuple #[mv Mk.none,.bool false]) (by simp[results,results226,go_sem,mv,Mk.none,c0,c1,c2,c3]) rfl ⟨rfl,?_⟩;exact ak HG1.o ((((al _ _ _ _).trans (al _ _ _ _)).trans (al _ _ _ _)).trans (al _ _ _ _)) (fun x e=>by cases e;exact Qj _)
  ·have hN:¬mi=0:=by
    rcases hd with h | h
    ·unfold Mk.none at h;injection h with h1 h2 h3 h4;exact absurd h2 hq
    ·exact h.1
   have q0:(mi == 0)=false:=(by simpa using hN);rw[Qx hq];clear hd hq hN;go_enter func226,ntmps226;go_upto_region 1 with fail;rw[←hW1];clear hW1;go_wp2_with (first | (go_at_call 116;refine(bA b _ p _ HR.o).mono ?_;rintro e w1 ⟨rfl,h1⟩;obtain rfl:W1=w1:=h1.symm) | fail)
   refine bodyPost_ret (v:=.tuple #[mv ⟨mi,nm,po,he⟩,.bool true]) (by simp[results,results226,go_sem,mv,c0,c1,c2,c3]) rfl ⟨rfl,?_⟩;exact ak HG1.o ((((al _ _ _ _).trans (al _ _ _ _)).trans (al _ _ _ _)).trans (al _ _ _ _)) (fun x e=>by cases e;exact Qj _)
structure Fe where
 ho:Int
 su:Int
 tr:Int
 po:Int
 he:Int
def Fe.none:Fe:=⟨0,0,0,0,0⟩
def fev (f:Fe):Value:=.agg #[.int .i64 f.ho,.int .u8 f.su,.int .u16 f.tr,.int .i64 f.po,.int .i64 f.he]
def fcs (f:Fe):Array Value:=#[.int .i64 f.ho,.int .u8 f.su,.int .u16 f.tr,.int .i64 f.po,.int .i64 f.he]
def InI (a:Int):Prop:=-9223372036854775808≤a∧a≤9223372036854775807
theorem kZ (a:Int):InI (wrap64 a):=by unfold InI wrap64;omega
theorem il (h:InI a):wrap64 a=a:=by unfold InI at h;unfold wrap64;omega
def adw (a c m:Int):Int:=wrap64 (a+wrap64 (c*m))
def fZ (a:Int) (l:List (Int×Mk)):Int:=l.foldl (fun a x=>adw a x.1 x.2.po) a
def gu (a:Int) (l:List (Int×Mk)):Int:=l.foldl (fun a x=>adw a x.1 x.2.he) a
theorem jK (a:Int) (l:List (Int×Mk)) (x:Int×Mk):fZ a (l++[x])=adw (fZ a l) x.1 x.2.po:=by unfold fZ;rw[Qdd];rfl
theorem jC (a:Int) (l:List (Int×Mk)) (x:Int×Mk):gu a (l++[x])=adw (gu a l) x.1 x.2.he:=by unfold gu;rw[Qdd];rfl
theorem kH {a:Int} (h:InI a):∀ l:List (Int×Mk),InI (fZ a l)
 | []=>h
 | x :: l=>kH (a:=adw a x.1 x.2.po) (kZ _) l
theorem kM {a:Int} (h:InI a):∀ l:List (Int×Mk),InI (gu a l)
 | []=>h
 | x :: l=>kM (a:=adw a x.1 x.2.he) (kZ _) l
def zs (p:Pl) (c0 c1 c2 c3:Int):List (Int×Mk):=[(c0,moM p 1),(c1,moM p 2),(c2,moM p 3),(c3,moM p 4)]
def Gf (a:Int):Int:=if a<0 then 0 else a
def tu (p:Pl) (f:Fe) (c0 c1 c2 c3:Int):Fe:=⟨f.ho,f.su,f.tr,Gf (fZ f.po (zs p c0 c1 c2 c3)),gu f.he (zs p c0 c1 c2 c3)⟩
theorem rD (hD:MkD p) {t:Int} (h:moB p t=false):(moM p t).po=0∧(moM p t).he=0:=by
 have hn:(moM p t).nm=⟨#[]⟩:=by unfold moB at h;simpa using h
 have hm:moM p t=Mk.none∨moM p t∈p.mks:=by
  unfold moM;split
  ·rw[Qa2];cases hk:p.mks[t.toNat]? with
   | none=>exact Or.inl rfl
   | some m=>exact Or.inr (Qm hk)
  ·exact Or.inl rfl
 rcases hm with hm | hm
 ·rw[hm];exact⟨rfl,rfl⟩
 ·rcases hD.2 _ hm with h1 | h1
  ·rw[h1];exact⟨rfl,rfl⟩
  ·exact absurd hn h1.2
def atC (p:Pl) (es:List Ent) (n:Int):Hd×List Pt:=if p.shut=true∧1≤n then (match es[(n - 1).toNat]? with | some e=>(e.h,e.ps) | none=>(Hd.none,[])) else (Hd.none,[])
def atX (p:Pl) (es:List Ent) (n:Int):Int:=if p.shut=true∧1≤n∧n≤(es.length:Int) then 0 else 6
def plF:List Pt→Nat→Int→List Int
 | [],_,_=>[]
 | q :: r,k,w=>if q.wn=w then (k:Int) :: plF r (k+1) w else plF r (k+1) w
end Go.Proofs.YtjmepebbcnhalaaGreat
namespace Go.Proofs.YtjmepebbcnhalaaGreat
open Tryz
variable {a:Int} {p:Pl}
structure Th where
 card:Int
 owner:Int
 place:Int
 stamp:Int
 hurt:Int
 m0:Int
 m1:Int
 m2:Int
 m3:Int
 done:Int
 fresh:Bool

def Th.home (t:Th) (tp:Int):Th:=⟨t.card,t.owner,tp,0,0,0,0,0,0,0,false⟩
def Th.off (t:Th):Prop:=t=t.home t.place
def Th.marked (t:Th):Prop:=(0≤t.m0∧t.m0≤99)∧(0≤t.m1∧t.m1≤99)∧(0≤t.m2∧t.m2≤99)∧(0≤t.m3∧t.m3≤99)
def Th.alone (t:Th) (nx:Int):Prop:=1≤t.card∧(t.owner=0∨t.owner=1)∧(1≤t.place∧t.place≤5)∧(t.place≠4→t.off)∧(t.place=4→1≤t.stamp∧t.stamp<nx∧0≤t.hurt∧0≤t.done∧t.marked)
def Th.none:Th:=⟨0,0,0,0,0,0,0,0,0,0,false⟩
def I8 (ts:List Th) (n:Int):Th:=ts.getD (n - 1).toNat Th.none
def there (ts:List Th) (n:Int):Prop:=1≤n∧n≤(ts.length:Int)
def inn (ts:List Th) (p pl n:Int):Prop:=there ts n∧(I8 ts n).owner=p∧(I8 ts n).place=pl
def Holds (ts:List Th) (l:List Int) (p pl:Int):Prop:=l.Nodup∧∀ n,n∈l↔inn ts p pl n
set_option maxHeartbeats 1000000
open Go.RowKit
def gH (s k:Int):Bool:=bits .and .u16 s (nI k) != 0
def qD (s k:Int):Int:=bits .or .u16 s (nI k)
def iD (s k:Int):Int:=bits .andNot .u16 s (nI k)
theorem oK (k:Int):(k=1∨k=2∨k=3∨k=4∨k=5∨k=6∨k=7∨k=8)∨(k<1∨8<k):=by omega
theorem rZ {k:Int} (h:k<1∨8<k):nI k=0:=by
 unfold nI;rw[if_neg (by omega),if_neg (by omega),if_neg (by omega),if_neg (by omega),if_neg (by omega),if_neg (by omega),if_neg (by omega),if_neg (by omega)]
theorem tT (k:Int) (h1:1≤k) (h2:k≤8) (w:World):Calls prog 294 #[.int .u8 k] w fun e w'=>e=.returned (.bool true)∧w'=w:=by
 go_enter func294,ntmps294;go_wp2;go_ret;exact⟨rfl,rfl⟩
theorem yk (k:Int) (h:k<1∨8<k) (w:World):Calls prog 294 #[.int .u8 k] w fun e w'=>e=.returned (.bool false)∧w'=w:=by
 rcases h with h | h
 ·go_enter func294,ntmps294;go_wp2;go_ret;exact⟨rfl,rfl⟩
 ·have h1:(1:Int)≤k:=by omega
  have h2:decide (k≤8)=false:=Qx (by omega);clear h;go_enter func294,ntmps294;go_wp2;go_ret;exact⟨rfl,rfl⟩
theorem Fi (k:Int) (w:World):Calls prog 262 #[.int .u8 k] w fun e w'=>e=.returned (.int .u16 (nI k))∧w'=w:=by
 rcases oK k with h | h
 ·rcases h with rfl | rfl | rfl | rfl | rfl | rfl | rfl | rfl
  all_goals
   go_enter func262,ntmps262;go_wp2_with fail;refine(tT _ (by omega) (by omega) _).mono ?_;rintro e w1 ⟨rfl,rfl⟩;go_wp2;go_ret;exact⟨rfl,rfl⟩
 ·rw[rZ h];go_enter func262,ntmps262;go_wp2_with fail;refine(yk _ h _).mono ?_;rintro e w1 ⟨rfl,rfl⟩;go_wp2;go_ret;exact⟨rfl,rfl⟩
theorem mU (s k:Int) (w:World):Calls prog 212 #[.int .u16 s,.int .u8 k] w fun e w'=>e=.returned (.bool (gH s k))∧w'=w:=by
 go_enter func212,ntmps212;go_wp2_with fail;refine(Fi _ _).mono ?_;rintro e w1 ⟨rfl,rfl⟩;go_wp2;go_ret;exact⟨rfl,rfl⟩
theorem Dl {v:Int} (h:¬(10≤v∧v≤15)):lay v=0:=by
 unfold lay;rw[if_neg (by omega),if_neg (by omega),if_neg (by omega),if_neg (by omega),if_neg (by omega)]
theorem lp (v:Int) (w:World):Calls prog 213 #[.int .u8 v] w fun e w'=>e=.returned (.int .i64 (lay v))∧w'=w:=by
 by_cases h:10≤v∧v≤15
 ·have:v=10∨v=11∨v=12∨v=13∨v=14∨v=15:=by omega
  rcases this with rfl | rfl | rfl | rfl | rfl | rfl
  all_goals
   go_enter func213,ntmps213;go_wp2;go_ret;exact⟨rfl,rfl⟩
 ·rw[Dl h];have e1:(v == 10)=false:=by simp;omega
  have e2:(v == 11)=false:=by simp;omega
  have e3:(v == 12)=false:=by simp;omega
  have e4:(v == 13)=false:=by simp;omega
  have e5:(v == 14)=false:=by simp;omega
  have e6:(v == 15)=false:=by simp;omega
  clear h;go_enter func213,ntmps213;go_wp2;go_ret;exact⟨rfl,rfl⟩
structure Sd where
 th:Int
 pl:Int
 wh:Pt
structure Se where
 s:Sd
 ro:Nat
structure Rw where
 nu:Int
 st:Int
 h:Hd
 ps:List Pt
def Sd.none:Sd:=⟨0,0,Pt.none⟩
def Se.none:Se:=⟨Sd.none,0⟩
def Rw.none:Rw:=⟨0,0,Hd.none,[]⟩
def gh (x:Int):Bool:=decide (x=0) || decide (x=1)
def cR (n:Int) (t:Th):Bool:=decide (1≤t.card) && decide (t.card≤n) && gh t.owner && decide (1≤t.place) && decide (t.place≤5)
def bq (t:Th) (f:Fe):Bool:=decide (0<t.stamp) && gh f.ho && cM f.tr
def dW (n:Int) (cd:Int→Hd×List Pt):List (Th×Fe)→Nat→List Rw→Option (List Rw)
 | [],_,acc=>some acc
 | (t,f) :: r,i,acc =>
  if cR n t=false then none
  else if t.place≠4 then dW n cd r (i+1) acc
  else if acc.length=16∨bq t f=false then none
  else if (cd t.card).1.kd=2 then none
  else dW n cd r (i+1) (acc++[⟨(i:Int)+1,t.stamp,(cd t.card).1,(cd t.card).2⟩])
def dif:List Int→Bool
 | []=>true
 | a :: l=>(match l with | []=>true | b :: _=>decide (a≠b)) && dif l
def bG (R:List Rw):List Int:=R.map Rw.st
def sortR (R:List Rw):List Rw:=R.mergeSort fun a b=>decide (a.st≤b.st)
def bI (n:Int) (cd:Int→Hd×List Pt) (ts:List Th) (fs:List Fe):Option (List Rw) :=
 if ts.length=fs.length then
  match dW n cd (ts.zip fs) 0 [] with
  | some acc=>if dif (bG (sortR acc)) then some (sortR acc) else none
  | none=>none
 else none
def ay (R:List Rw) (fs:List Fe):List Fe:=R.map fun r=>fs.getD (r.nu - 1).toNat Fe.none
def bR (wh:Pt) (own:Bool) (kd:Int) (f:Fe) (ho:Int):Bool :=
 if wh.wm=4 then own
 else if kd≠1 then false
 else if wh.wm=5 then decide (f.ho=ho)
 else if wh.wm=8 then decide (f.ho=ho) && !own
 else if wh.wm=6 then !decide (f.ho=ho)
 else if wh.wm=7 then true
 else if wh.wm=9 then decide (f.su=wh.su)
 else if wh.wm=10 then gH f.tr wh.tr
 else false
def gn (R:List Rw) (F:List Fe) (s:Se) (i:Nat):Bool:=bR s.s.wh (decide (i=s.ro)) (R.getD i Rw.none).h.kd (F.getD i Fe.none) (F.getD s.ro Fe.none).ho
def lO (R:List Rw) (F:List Fe) (s:Se) (k:Nat):List Bool:=(List.range k).map (gn R F s)
def bC (R:List Rw) (F:List Fe) (s:Se):List Bool:=lO R F s R.length
def ix (f:Fe) (wh:Pt) (ho:Int):Fe :=
 if wh.vb=10 then { f with ho:=ho }
 else if wh.vb=11 then { f with su:=wh.su }
 else if wh.vb=12 then { f with tr:=qD f.tr wh.tr }
 else if wh.vb=13 then { f with tr:=iD f.tr wh.tr }
 else if wh.vb=14 then { f with po:=wh.ct,he:=wh.ct }
 else if wh.vb=15 then { f with po:=wrap64 (f.po+wh.ct),he:=wrap64 (f.he+wh.ct) }
 else f
def jI (R:List Rw) (F:List Fe) (s:Se) (i:Nat):Fe:=if gn R F s i then ix (F.getD i Fe.none) s.s.wh (F.getD s.ro Fe.none).ho else F.getD i Fe.none
def bK (R:List Rw) (F:List Fe) (s:Se):List Fe:=(List.range F.length).map (jI R F s)
def uk (R:List Rw) (F:List Fe) (s o:Se):Bool:=!decide (bC R F s=bC R (bK R F o) s)
def dN (R:List Rw) (F:List Fe) (L:List Se) (i:Nat):Bool:=(List.range L.length).all fun j=>decide (i=j) || !uk R F (L.getD i Se.none) (L.getD j Se.none)
def eO (R:List Rw) (F:List Fe) (L:List Se):Nat:=((List.range L.length).find? (dN R F L)).getD 0
def fD (k:Int) (nu:Int) (ro:Nat) (ps:List Pt) (m:Nat):List Se:=(List.range m).filterMap fun i=>if (ps.getD i Pt.none).wn=5∧lay (ps.getD i Pt.none).vb=k then some ⟨⟨nu,(i:Int),ps.getD i Pt.none⟩,ro⟩ else none
def jO (R:List Rw) (F:List Fe) (k:Int) (i:Nat):List Se:=if gH (F.getD i Fe.none).tr 6 then [] else fD k (R.getD i Rw.none).nu i (R.getD i Rw.none).ps (R.getD i Rw.none).ps.length
def j7 (R:List Rw) (F:List Fe) (k:Int) (m:Nat):List Se:=(List.range m).flatMap (jO R F k)
def dI (R:List Rw) (F:List Fe) (k:Int):List Se:=j7 R F k R.length
def uX (R:List Rw):Nat→List Fe→List Se→List Se→List Fe×List Se
 | 0,F,_,acc=>(F,acc)
 | n+1,F,L,acc=>if L=[] then (F,acc) else uX R n (bK R F (L.getD (eO R F L) Se.none)) (L.eraseIdx (eO R F L)) (acc++[L.getD (eO R F L) Se.none])
def sI (fs:List Fe) (R:List Rw) (F:List Fe) (m:Nat):List Fe:=(List.range m).foldl (fun a i=>a.set ((R.getD i Rw.none).nu - 1).toNat (F.getD i Fe.none)) fs
def ei (fs:List Fe) (R:List Rw) (F:List Fe):List Fe:=sI fs R F R.length
def eY (ps:List Pt) (s:Sd):Bool:=decide (0≤s.pl) && decide (s.pl<(ps.length:Int)) && (decide (s.wh.wn=5) && f9 (ps.getD s.pl.toNat Pt.none) s.wh)
def iB (R:List Rw) (n:Int):Option Nat:=R.findIdx? fun r=>decide (r.nu=n)
def dZ (R:List Rw) (s:Sd):Option Se:=match iB R s.th with
 | some i=>if eY (R.getD i Rw.none).ps s then some ⟨s,i⟩ else none
 | none=>none
def ez (s o:Se):Bool:=(decide (s.s.th=o.s.th) && decide (s.s.pl=o.s.pl)) || !decide (lay s.s.wh.vb=lay o.s.wh.vb)
def eV (s:Se) (L:List Se):Bool:=L.all fun o=>!ez s o
def cH (R:List Rw):List Sd→List Se→Option (List Se)
 | [],acc=>some acc
 | s :: l,acc=>match dZ R s with
  | some e=>if eV e acc then cH R l (acc++[e]) else none
  | none=>none
