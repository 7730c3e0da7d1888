import Derived.Test.YtjmepebbcnhalaaGreatWRChk2
import Derived.Test.YtjmepebbcnhalaaGreatW4
import Derived.Test.YtjmepebbcnhalaaGreatW9
namespace Go.Proofs.YtjmepebbcnhalaaGreat
set_option maxHeartbeats 2000000
open Go.RowKit
theorem qM (s:ByteArray) (w:World):Calls Tryz.prog 181 #[.string s] w fun e w'=>e=.returned (.bool (aR s.data.toList))∧w'=w:=by
 have HL:Hid (s.data.toList.length=s.size):=(Lib.size_eq s).symm
 by_cases h0:s.size=0
 ·have hb:(s.size:Int)<1:=by omega
  rw[show s.data.toList=[] from List.eq_nil_of_length_eq_zero (by rw[HL.out];exact h0)]
  clear h0
  go_enter Tryz.func181,Tryz.ntmps181
  go_wp2
  go_ret
  exact⟨rfl,rfl⟩
 ·have hb:¬(s.size:Int)<1:=by omega
  by_cases h1:20<s.size
  ·have hb1:(20:Int)<(s.size:Int):=by omega
   rw[gg (by rw[HL.out];exact h1)]
   clear h0 h1
   go_enter Tryz.func181,Tryz.ntmps181
   go_wp2
   go_ret
   exact⟨rfl,rfl⟩
  ·have hb1:¬(20:Int)<(s.size:Int):=by omega
   have hp:0<s.size:=by omega
   have B0:Hid (s.data.toList[0]?=some s[0]):=gd s 0 hp
   have H1:Hid (s.data.toList.length≤20):=by rw[Hid,HL.out];omega
   clear h0 h1
   by_cases hc:s[0]=45
   ·have hq:((s[0].toNat:Int) == 45)=true:=by simp[hc]
    rw[dX B0.out (by rw[hc];rfl)]
    clear hc
    go_enter Tryz.func181,Tryz.ntmps181
    go_wp2
    go_ret
    exact⟨rfl,rfl⟩
   ·have hq:((s[0].toNat:Int) == 45)=false:=by
     have:¬(s[0].toNat:Int)=45:=fun e=>hc (UInt8.toNat_inj.1 (by simpa using (by omega:s[0].toNat=45)))
     simpa using this
    have HC:Hid (¬s[0]=45):=hc
    clear hc
    go_enter Tryz.func181,Tryz.ntmps181
    go_wp2
    go_loopw [3] (fun t wr=>wr=w∧∃ i:Nat,i≤s.size∧t=.int .i64 i∧∀ j x,j<i→s.data.toList[j]?=some x→okb x=true) (fun t _=>s.size - (intOf t).toNat)
    case atStart=>exact⟨rfl,0,Nat.zero_le _,rfl,fun j x hj=>absurd hj (by omega)⟩
    case round =>
     obtain⟨rfl,i,hi,rfl,ha⟩:=hrel
     have HA:Hid (∀ j x,j<i→s.data.toList[j]?=some x→okb x=true):=ha
     clear ha
     by_cases hl:i<s.size
     ·have hl':(i:Int)<(s.size:Int):=by omega
      have BI:Hid (s.data.toList[i]?=some s[i]):=gd s i hl
      by_cases a:(s[i].toNat:Int)<97
      ·by_cases hd:s[i]=45
       ·have hq:((s[i].toNat:Int) != 45)=false:=by simp[hd]
        have HN:Hid (okb s[i]=true):=by simp[Hid,okb,hd]
        clear hd
        go_wp2
        go_roundw
        case rel=>exact⟨trivial,i+1,by omega,by go_num,fun j x hj hx=>by
         rcases (show j<i∨j=i from by omega) with h' | rfl
         ·exact HA.out j x h' hx
         ·rw[BI.out] at hx;cases hx;exact HN.out⟩
        case measure=>simp[intOf];omega
       ·have hq:((s[i].toNat:Int) != 45)=true:=by
         have:¬(s[i].toNat:Int)=45:=fun e=>hd (UInt8.toNat_inj.1 (by simpa using (by omega:s[i].toNat=45)))
         exact eP this
        have HN:Hid (okb s[i]=false):=by
         have:¬97≤s[i].toNat:=by omega
         simp[Hid,okb,bB,this,hd]
        clear hd
        go_wp2
        go_ret
        exact⟨aH (dZ BI.out HN.out).symm,rfl⟩
      ·by_cases a':(122:Int)<(s[i].toNat:Int)
       ·have hd:¬s[i]=45:=by
         intro h
         rw[h] at a'
         exact absurd a' (by decide)
        have hq:((s[i].toNat:Int) != 45)=true:=eP (by omega)
        have HN:Hid (okb s[i]=false):=by
         have:¬s[i].toNat≤122:=by omega
         simp[Hid,okb,bB,this,hd]
        clear hd
        go_wp2
        go_ret
        exact⟨aH (dZ BI.out HN.out).symm,rfl⟩
       ·have HN:Hid (okb s[i]=true):=by
         have h1:97≤s[i].toNat:=by omega
         have h2:s[i].toNat≤122:=by omega
         simp[Hid,okb,bB,h1,h2]
        go_wp2
        go_roundw
        case rel=>exact⟨trivial,i+1,by omega,by go_num,fun j x hj hx=>by
         rcases (show j<i∨j=i from by omega) with h' | rfl
         ·exact HA.out j x h' hx
         ·rw[BI.out] at hx;cases hx;exact HN.out⟩
        case measure=>simp[intOf];omega
     ·have hl':¬(i:Int)<(s.size:Int):=by omega
      have HY:Hid (aR s.data.toList=true):=by
       have ALL:∀ (j:Nat) x,s.data.toList[j]?=some x→okb x=true:=fun j x hx=>HA.out j x (by
        have:=(List.getElem?_eq_some_iff.1 hx).1
        rw[HL.out] at this
        omega) hx
       have L0:bB s[0]=true:=by
        have:=ALL 0 _ B0.out
        simpa [okb,HC.out] using this
       exact jO B0.out L0 H1.out ALL
      go_wp2
      go_ret
      exact⟨aH HY.out.symm,rfl⟩

def wB (n a b:Int):Bool:=decide (a≤n) && decide (n≤b)
theorem et (n a b:Int) (w:World):Calls Tryz.prog 182 #[.int .i64 n,.int .i64 a,.int .i64 b] w fun e w'=>e=.returned (.bool (wB n a b))∧w'=w:=by
 by_cases h:a≤n
 ·have e:wB n a b=decide (n≤b):=by simp[wB,h]
  rw[e]
  clear e
  go_enter Tryz.func182,Tryz.ntmps182
  go_wp2
  go_ret
  exact⟨rfl,rfl⟩
 ·have e:wB n a b=false:=by simp[wB,h]
  rw[e]
  clear e
  go_enter Tryz.func182,Tryz.ntmps182
  go_wp2
  go_ret
  exact⟨rfl,rfl⟩
theorem gk (s:Int) (w:World):Calls Tryz.prog 183 #[.int .u16 s] w fun e w'=>e=.returned (.bool (decide (s<256)))∧w'=w:=by
 go_enter Tryz.func183,Tryz.ntmps183
 go_wp2
 go_ret
 exact⟨rfl,rfl⟩
set_option maxHeartbeats 2000000 in
theorem lJ (s : ByteArray) (w : World) : Calls Tryz.prog 125 #[.string s] w fun e w' => e = .returned (.bool (aR s.data.toList)) ∧ w' = w := by
  have HL : Hid (s.data.toList.length = s.size) := (Lib.size_eq s).symm
  by_cases h0 : s.size = 0
  · have hb : (s.size : Int) < 1 := by omega
    rw [show s.data.toList = [] from List.eq_nil_of_length_eq_zero (by rw [HL.out]; exact h0)]
    clear h0
    go_enter Tryz.func125, Tryz.ntmps125
    go_wp2
    go_ret
    exact ⟨rfl, rfl⟩
  · have hb : ¬ (s.size : Int) < 1 := by omega
    by_cases h1 : 20 < s.size
    · have hb1 : (20 : Int) < (s.size : Int) := by omega
      rw [gg (by rw [HL.out]; exact h1)]
      clear h0 h1
      go_enter Tryz.func125, Tryz.ntmps125
      go_wp2
      go_ret
      exact ⟨rfl, rfl⟩
    · have hb1 : ¬ (20 : Int) < (s.size : Int) := by omega
      have hp : 0 < s.size := by omega
      have B0 : Hid (s.data.toList[0]? = some s[0]) := gd s 0 hp
      have H1 : Hid (s.data.toList.length ≤ 20) := by rw [Hid, HL.out]; omega
      clear h0 h1
      by_cases hc : (s[0].toNat : Int) < 97
      · rw [dX B0.out (by have : ¬ 97 ≤ s[0].toNat := (by omega); simp [bB, this])]
        go_enter Tryz.func125, Tryz.ntmps125
        go_wp2
        go_ret
        exact ⟨rfl, rfl⟩
      by_cases hd : (122 : Int) < (s[0].toNat : Int)
      · rw [dX B0.out (by have : ¬ s[0].toNat ≤ 122 := (by omega); simp [bB, this])]
        go_enter Tryz.func125, Tryz.ntmps125
        go_wp2
        go_ret
        exact ⟨rfl, rfl⟩
      · have HC : Hid (bB s[0] = true) := by
          have h1 : 97 ≤ s[0].toNat := by omega
          have h2 : s[0].toNat ≤ 122 := by omega
          simp [Hid, bB, h1, h2]
        go_enter Tryz.func125, Tryz.ntmps125
        go_wp2
        go_loopw [3] (fun t wr => wr = w ∧ ∃ i : Nat, i ≤ s.size ∧ t = .int .i64 i ∧ ∀ j x, j < i → s.data.toList[j]? = some x → okb x = true) (fun t _ => s.size - (intOf t).toNat)
        case atStart => exact ⟨rfl, 0, Nat.zero_le _, rfl, fun j x hj => absurd hj (by omega)⟩
        case round =>
          obtain ⟨rfl, i, hi, rfl, ha⟩ := hrel
          have HA : Hid (∀ j x, j < i → s.data.toList[j]? = some x → okb x = true) := ha
          clear ha
          by_cases hl : i < s.size
          · have hl' : (i : Int) < (s.size : Int) := by omega
            have BI : Hid (s.data.toList[i]? = some s[i]) := gd s i hl
            by_cases a : (s[i].toNat : Int) < 97
            · by_cases hd : s[i] = 45
              · have hq : ((s[i].toNat : Int) != 45) = false := by simp [hd]
                have HN : Hid (okb s[i] = true) := by simp [Hid, okb, hd]
                clear hd
                go_wp2
                go_roundw
                case rel => exact ⟨trivial, i + 1, by omega, by go_num, fun j x hj hx => by
                  rcases (show j < i ∨ j = i from by omega) with h' | rfl
                  · exact HA.out j x h' hx
                  · rw [BI.out] at hx; cases hx; exact HN.out⟩
                case measure => simp [intOf]; omega
              · have hq : ((s[i].toNat : Int) != 45) = true := by
                  have : ¬ (s[i].toNat : Int) = 45 := fun e => hd (UInt8.toNat_inj.1 (by simpa using (by omega : s[i].toNat = 45)))
                  exact eP this
                have HN : Hid (okb s[i] = false) := by
                  have : ¬ 97 ≤ s[i].toNat := by omega
                  simp [Hid, okb, bB, this, hd]
                clear hd
                go_wp2
                go_ret
                exact ⟨aH (dZ BI.out HN.out).symm, rfl⟩
            · by_cases a' : (122 : Int) < (s[i].toNat : Int)
              · have hd : ¬ s[i] = 45 := by
                  intro h
                  rw [h] at a'
                  exact absurd a' (by decide)
                have hq : ((s[i].toNat : Int) != 45) = true := eP (by omega)
                have HN : Hid (okb s[i] = false) := by
                  have : ¬ s[i].toNat ≤ 122 := by omega
                  simp [Hid, okb, bB, this, hd]
                clear hd
                go_wp2
                go_ret
                exact ⟨aH (dZ BI.out HN.out).symm, rfl⟩
              · have HN : Hid (okb s[i] = true) := by
                  have h1 : 97 ≤ s[i].toNat := by omega
                  have h2 : s[i].toNat ≤ 122 := by omega
                  simp [Hid, okb, bB, h1, h2]
                go_wp2
                go_roundw
                case rel => exact ⟨trivial, i + 1, by omega, by go_num, fun j x hj hx => by
                  rcases (show j < i ∨ j = i from by omega) with h' | rfl
                  · exact HA.out j x h' hx
                  · rw [BI.out] at hx; cases hx; exact HN.out⟩
                case measure => simp [intOf]; omega
          · have hl' : ¬ (i : Int) < (s.size : Int) := by omega
            have HY : Hid (aR s.data.toList = true) := by
              have ALL : ∀ (j : Nat) x, s.data.toList[j]? = some x → okb x = true := fun j x hx => HA.out j x (by
                have := (List.getElem?_eq_some_iff.1 hx).1
                rw [HL.out] at this
                omega) hx
              have L0 : bB s[0] = true := HC.out
              exact jO B0.out L0 H1.out ALL
            go_wp2
            go_ret
            exact ⟨aH HY.out.symm, rfl⟩

def pS (v : Value) (p : Pl) : List Value := .bool true :: .bool p.shut :: v :: (p.nms.map Value.string ++ fu p.mks)
structure RJ (w : World) (b : Nat) (v : Value) (p : Pl) : Prop where
  lies : w.heap[b]? = some (.cells (pS v p).toArray 198 (0, 0))
  nine : p.nms.length = 9
  five : p.mks.length = 5
theorem RJ.keepR {w w' : World} {b : Nat} {v : Value} {p : Pl} {r : Option Nat} (h : RJ w b v p) (g : w.grownBy w' r) (hr : some b ≠ r) : RJ w' b v p := ⟨ai g h.lies hr, h.nine, h.five⟩
theorem RJ.keep {w w' : World} {b : Nat} {v : Value} {p : Pl} (h : RJ w b v p) (g : w.grownBy w' none) : RJ w' b v p := h.keepR g (by simp)
theorem RJ.made {w : World} {b : Nat} {v : Value} {p : Pl} (h : RJ w b v p) : w.cell? ⟨b, 0, none⟩ = some (.bool true) := ae h.lies 0
theorem RJ.shut {w : World} {b : Nat} {v : Value} {p : Pl} (h : RJ w b v p) : w.cell? ⟨b, 1, none⟩ = some (.bool p.shut) := ae h.lies 1
theorem RJ.list {w : World} {b : Nat} {v : Value} {p : Pl} (h : RJ w b v p) : w.cell? ⟨b, 2, none⟩ = some v := ae h.lies 2
theorem RJ.free {w : World} {b : Nat} {v : Value} {p : Pl} (h : RJ w b v p) (i : Nat) : w.frozen? ⟨b, i, none⟩ = false := aA h.lies i
theorem RJ.name {w : World} {b : Nat} {v : Value} {p : Pl} (h : RJ w b v p) {t : Nat} {s : ByteArray} (ht : p.nms[t]? = some s) : w.cell? ⟨b, 3 + t, none⟩ = some (.string s) := by
  have hl : t < p.nms.length := (List.getElem?_eq_some_iff.1 ht).1
  rw [ae h.lies, List.getElem?_toArray]
  unfold pS
  rw [show 3 + t = t + 1 + 1 + 1 by omega, List.getElem?_cons_succ, List.getElem?_cons_succ, List.getElem?_cons_succ, List.getElem?_append_left (by simpa using hl), List.getElem?_map, ht]
  rfl
theorem RJ.mark {w : World} {b : Nat} {v : Value} {p : Pl} (h : RJ w b v p) {t : Nat} {m : Mk} (ht : p.mks[t]? = some m) : M4 w b (12 + t * 4) m := by
  have at_ : ∀ k u, k < 4 → (mvs m)[k]? = some u → w.cell? ⟨b, 12 + t * 4 + k, none⟩ = some u := fun k u hk hu => by
    rw [ae h.lies, List.getElem?_toArray]
    unfold pS
    rw [show 12 + t * 4 + k = 9 + (t * 4 + k) + 1 + 1 + 1 by omega, List.getElem?_cons_succ, List.getElem?_cons_succ, List.getElem?_cons_succ, List.getElem?_append_right (by simp [h.nine]), List.length_map, h.nine, show 9 + (t * 4 + k) - 9 = t * 4 + k by omega, kR _ _ _ ht k hk]
    exact hu
  exact ⟨at_ 0 _ (by omega) rfl, at_ 1 _ (by omega) rfl, at_ 2 _ (by omega) rfl, at_ 3 _ (by omega) rfl⟩
def RL (w : World) (v : Value) (fs : List Ent) : Prop := (v = .slice none 0 0 ∧ fs = []) ∨ ∃ g cap, v = .slice (some ⟨g, 0, none⟩) fs.length cap ∧ ll w g 0 fs
theorem RL.keep {w w' : World} {v : Value} {fs : List Ent} (h : RL w v fs) (g : w.grownBy w' none) : RL w' v fs := by
  rcases h with h | ⟨x, c, e, k⟩
  · exact Or.inl h
  · exact Or.inr ⟨x, c, e, k.keep g⟩
theorem C9.keepR {w w' : World} {g o : Nat} {h : Hd} {v : Value} {r : Option Nat} (k : C9 w g o h v) (hg : w.grownBy w' r) (hr : some g ≠ r) : C9 w' g o h v :=
  ⟨hg.cell k.c0 hr, hg.cell k.c1 hr, hg.cell k.c2 hr, hg.cell k.c3 hr, hg.cell k.c4 hr, hg.cell k.c5 hr, hg.cell k.c6 hr, hg.cell k.c7 hr, hg.cell k.c8 hr⟩
theorem RL.keepR {w w' : World} {v : Value} {fs : List Ent} {r : Option Nat} (h : RL w v fs) (g : w.grownBy w' r) (hr : ∀ k, v.ownBlock = some k → some k ≠ r) : RL w' v fs := by
  rcases h with h | ⟨x, c, rfl, k⟩
  · exact Or.inl h
  · exact Or.inr ⟨x, c, rfl, fun j e he => (k j e he).keepR g (hr x rfl)⟩
theorem RL.form {w : World} {v : Value} {fs : List Ent} (h : RL w v fs) : ∃ a c, v = .slice a fs.length c := by
  rcases h with ⟨rfl, rfl⟩ | ⟨x, c, rfl, _⟩
  · exact ⟨_, _, rfl⟩
  · exact ⟨_, _, rfl⟩
theorem RL.row {w : World} {v : Value} {fs : List Ent} (h : RL w v fs) (h0 : 0 < fs.length) : ∃ g c, v = .slice (some ⟨g, 0, none⟩) fs.length c ∧ ∀ (j : Nat) e, fs[j]? = some e → C9 w g (j * 9) e.h e.v := by
  rcases h with ⟨rfl, rfl⟩ | ⟨x, c, rfl, k⟩
  · simp at h0
  · exact ⟨x, c, rfl, fun j e he => by have := k j e he; rw [Nat.zero_add] at this; exact this⟩
def rbA : Array Value := (pS (.slice none 0 0) gG).toArray
theorem rb (w : World) : (Instr.build 198 #[(0, .bool true)]).run Tryz.prog w = .ok (.agg rbA) w := by kernel_rfl
theorem xv (cs : Array Value) (w : World) : (Instr.box 198 (.agg cs)).run Tryz.prog w = .ok (.pointer (some ⟨w.heap.size, 0, none⟩)) (w.alloc (.cells cs 198)) := rfl
set_option maxRecDepth 100000 in
theorem Ad (w : World) : Calls Tryz.prog 49 #[] w fun e w' => e = .returned (.pointer (some ⟨w.heap.size, 0, none⟩)) ∧ RJ w' w.heap.size (.slice none 0 0) gG ∧ w.grownBy w' none ∧ w'.heap.size = w.heap.size + 1 := by
  go_enter Tryz.func49, Tryz.ntmps49
  go_wp2_with (first | (refine ji ?g 198 #[(0, .const (.bool true))] ?ho #[(0, .bool true)] ?hv (.agg rbA) (rb _) ?_; (case g => rfl); (case ho => rfl); (case hv => simp [Act.eval])) | (refine qz ?g 198 (.tmp 1) ?ho (.agg rbA) ?hv _ (xv rbA _) ?_; (case g => rfl); (case ho => rfl); (case hv => simp [Act.eval])) | fail)
  go_ret
  refine ⟨rfl, ⟨?_, rfl, rfl⟩, World.grownBy_alloc w _ none, by simp⟩
  exact ak w rbA 198
set_option maxHeartbeats 1000000 in
theorem bU (b : Nat) (v : Value) (p : Pl) (w : World) (R : RJ w b v p) : Calls Tryz.prog 116 #[.pointer (some ⟨b, 0, none⟩)] w fun e w' => e = .returned (.bool false) ∧ w' = w := by
  have c := R.made
  clear R
  go_enter Tryz.func116, Tryz.ntmps116
  go_wp2
  go_ret
  exact ⟨rfl, rfl⟩
set_option maxHeartbeats 1000000 in
theorem iV (b : Nat) (v : Value) (p : Pl) (w : World) (R : RJ w b v p) : Calls Tryz.prog 58 #[.pointer (some ⟨b, 0, none⟩)] w fun e w' => e = .returned (.bool p.shut) ∧ w' = w := by
  have HR : Hid (RJ w b v p) := R
  have c := R.shut
  clear R
  go_enter Tryz.func58, Tryz.ntmps58
  go_wp2_with fail
  refine (bU b v p w HR.out).mono ?_
  rintro e w1 ⟨rfl, h1⟩
  obtain rfl : w = w1 := h1.symm
  go_wp2
  go_ret
  exact ⟨rfl, rfl⟩
set_option maxRecDepth 100000 in
set_option maxHeartbeats 2000000 in
theorem mG (b : Nat) (v : Value) (p : Pl) (fs : List Ent) (s : ByteArray) (w : World) (R : RJ w b v p) (L : RL w v fs) (hl : fs.length ≤ 64) : Calls Tryz.prog 118 #[.pointer (some ⟨b, 0, none⟩), .string s] w fun e w' => e = .returned (.int .i64 (pos (bs fs) s)) ∧ w' = w := by
  have c := R.list
  have HL : Hid (RL w v fs) := L
  obtain ⟨a, k, rfl⟩ := L.form
  have hsm : aZ fs.length := by unfold aZ; omega
  clear R L
  go_enter Tryz.func118, Tryz.ntmps118
  go_wp2_with fail
  go_loopw [5] (fun x5 wr => wr = w ∧ ∃ i : Nat, i ≤ fs.length ∧ x5 = .int .i64 (i : Int) ∧ gx fs s i) (fun x5 _ => fs.length - (intOf x5).toNat)
  case atStart => exact ⟨rfl, 0, Nat.zero_le _, rfl, fun j e hj => absurd hj (by omega)⟩
  case round =>
    obtain ⟨rfl, i, hi, rfl, hN⟩ := hrel
    have HN : Hid (gx fs s i) := hN
    clear hN
    rcases (show i < fs.length ∨ i = fs.length from by omega) with hil | hie
    · have i0 : (0 : Int) ≤ (i : Int) := by omega
      have i1 : (i : Int) < (fs.length : Int) := by omega
      obtain ⟨g, cap, ev, hrow⟩ := HL.out.row (by omega)
      injection ev with e1 _ e3
      subst e1
      subst e3
      obtain ⟨e, he⟩ : ∃ e, fs[i]? = some e := ⟨_, List.getElem?_eq_getElem hil⟩
      have c0 := (hrow i e he).c0
      by_cases hs : e.h.nm = s
      · have hq := gI hs
        have HP : Hid (pos (bs fs) s = (i : Int)) := lC HN.out he hs
        clear hrow he hs hi
        go_wp2
        go_ret
        exact ⟨aK HP.out.symm, rfl⟩
      · have hq := iE hs
        have HN2 : Hid (gx fs s (i + 1)) := l5 HN.out he hs
        clear hrow he hs hi
        go_wp2_with fail
        go_roundw
        case rel => exact ⟨by first | rfl | trivial, i + 1, hil, by first | rfl | (rw [hsm.wrap hil]; rfl), HN2.out⟩
        case measure => first | exact au hil | (rw [hsm.wrap hil]; exact au hil)
    · have i1 : ¬ (i : Int) < (fs.length : Int) := by omega
      have HP : Hid (pos (bs fs) s = -1) := lB (by rw [← hie]; exact HN.out)
      clear hie hi
      go_wp2
      go_ret
      exact ⟨aK HP.out.symm, rfl⟩
end Go.Proofs.YtjmepebbcnhalaaGreat
