/-
  The document's own test of a card's name, its bounds, its numbers.
  The document's own book: where it lies, and what its small calls tell.
  The document's own book: Trait, TraitName.
  The document's own book: MarkOf, Mark.
-/
import Derived.Test.YtknlcjhcamhfmaaGreatDoorRChk2
import Derived.Test.YtknlcjhcamhfmaaGreatDoorJ5
import Derived.Test.YtknlcjhcamhfmaaGreatDoorJ13
namespace Go.Proofs.YtknlcjhcamhfmaaGreatDoor
open Go.RowKit

set_option maxHeartbeats 2000000 in
theorem m_rname_any (s : ByteArray) (w : World) : Calls Tryz.prog 246 #[.string s] w fun e w' => e = .returned (.bool (nameOk s.data.toList)) ∧ w' = w := by
  have HL : Hid (s.data.toList.length = s.size) := (Lib.size_eq s).symm
  by_cases h0 : s.size = 0
  · have hb : (s.size : Int) < 1 := by omega
    rw [show s.data.toList = [] from List.eq_nil_of_length_eq_zero (by rw [HL.out]; exact h0)]
    clear h0
    go_enter Tryz.func246, Tryz.ntmps246
    go_wp2
    go_ret
    exact ⟨rfl, rfl⟩
  · have hb : ¬ (s.size : Int) < 1 := by omega
    by_cases h1 : 20 < s.size
    · have hb1 : (20 : Int) < (s.size : Int) := by omega
      rw [name_no_len (by rw [HL.out]; exact h1)]
      clear h0 h1
      go_enter Tryz.func246, Tryz.ntmps246
      go_wp2
      go_ret
      exact ⟨rfl, rfl⟩
    · have hb1 : ¬ (20 : Int) < (s.size : Int) := by omega
      have hp : 0 < s.size := by omega
      have B0 : Hid (s.data.toList[0]? = some s[0]) := byte_at s 0 hp
      have H1 : Hid (s.data.toList.length ≤ 20) := by rw [Hid, HL.out]; omega
      clear h0 h1
      by_cases hc : s[0] = 45
      · have hq : ((s[0].toNat : Int) == 45) = true := by simp [hc]
        rw [name_no_first B0.out (by rw [hc]; rfl)]
        clear hc
        go_enter Tryz.func246, Tryz.ntmps246
        go_wp2
        go_ret
        exact ⟨rfl, rfl⟩
      · have hq : ((s[0].toNat : Int) == 45) = false := by
          have : ¬ (s[0].toNat : Int) = 45 := fun e => hc (UInt8.toNat_inj.1 (by simpa using (by omega : s[0].toNat = 45)))
          simpa using this
        have HC : Hid (¬ s[0] = 45) := hc
        clear hc
        go_enter Tryz.func246, Tryz.ntmps246
        go_wp2
        go_loopw [3] (fun t wr => wr = w ∧ ∃ i : Nat, i ≤ s.size ∧ t = .int .i64 i ∧ ∀ j x, j < i → s.data.toList[j]? = some x → okb x = true) (fun t _ => s.size - (intOf t).toNat)
        case atStart => exact ⟨rfl, 0, Nat.zero_le _, rfl, fun j x hj => absurd hj (by omega)⟩
        case round =>
          obtain ⟨rfl, i, hi, rfl, ha⟩ := hrel
          have HA : Hid (∀ j x, j < i → s.data.toList[j]? = some x → okb x = true) := ha
          clear ha
          by_cases hl : i < s.size
          · have hl' : (i : Int) < (s.size : Int) := by omega
            have BI : Hid (s.data.toList[i]? = some s[i]) := byte_at s i hl
            by_cases a : (s[i].toNat : Int) < 97
            · by_cases hd : s[i] = 45
              · have hq : ((s[i].toNat : Int) != 45) = false := by simp [hd]
                have HN : Hid (okb s[i] = true) := by simp [Hid, okb, hd]
                clear hd
                go_wp2
                go_roundw
                case rel => exact ⟨trivial, i + 1, by omega, by go_num, fun j x hj hx => by
                  rcases (show j < i ∨ j = i from by omega) with h' | rfl
                  · exact HA.out j x h' hx
                  · rw [BI.out] at hx; cases hx; exact HN.out⟩
                case measure => simp [intOf]; omega
              · have hq : ((s[i].toNat : Int) != 45) = true := by
                  have : ¬ (s[i].toNat : Int) = 45 := fun e => hd (UInt8.toNat_inj.1 (by simpa using (by omega : s[i].toNat = 45)))
                  exact bne_no this
                have HN : Hid (okb s[i] = false) := by
                  have : ¬ 97 ≤ s[i].toNat := by omega
                  simp [Hid, okb, letter, this, hd]
                clear hd
                go_wp2
                go_ret
                exact ⟨ret_bool (name_no_at BI.out HN.out).symm, rfl⟩
            · by_cases a' : (122 : Int) < (s[i].toNat : Int)
              · have hd : ¬ s[i] = 45 := by
                  intro h
                  rw [h] at a'
                  exact absurd a' (by decide)
                have hq : ((s[i].toNat : Int) != 45) = true := bne_no (by omega)
                have HN : Hid (okb s[i] = false) := by
                  have : ¬ s[i].toNat ≤ 122 := by omega
                  simp [Hid, okb, letter, this, hd]
                clear hd
                go_wp2
                go_ret
                exact ⟨ret_bool (name_no_at BI.out HN.out).symm, rfl⟩
              · have HN : Hid (okb s[i] = true) := by
                  have h1 : 97 ≤ s[i].toNat := by omega
                  have h2 : s[i].toNat ≤ 122 := by omega
                  simp [Hid, okb, letter, h1, h2]
                go_wp2
                go_roundw
                case rel => exact ⟨trivial, i + 1, by omega, by go_num, fun j x hj hx => by
                  rcases (show j < i ∨ j = i from by omega) with h' | rfl
                  · exact HA.out j x h' hx
                  · rw [BI.out] at hx; cases hx; exact HN.out⟩
                case measure => simp [intOf]; omega
          · have hl' : ¬ (i : Int) < (s.size : Int) := by omega
            have HY : Hid (nameOk s.data.toList = true) := by
              have ALL : ∀ (j : Nat) x, s.data.toList[j]? = some x → okb x = true := fun j x hx => HA.out j x (by
                have := (List.getElem?_eq_some_iff.1 hx).1
                rw [HL.out] at this
                omega) hx
              have L0 : letter s[0] = true := by
                have := ALL 0 _ B0.out
                simpa [okb, HC.out] using this
              exact name_yes B0.out L0 H1.out ALL
            go_wp2
            go_ret
            exact ⟨ret_bool HY.out.symm, rfl⟩

def wB (n a b : Int) : Bool := decide (a ≤ n) && decide (n ≤ b)
theorem r6within_any (n a b : Int) (w : World) : Calls Tryz.prog 247 #[.int .i64 n, .int .i64 a, .int .i64 b] w fun e w' => e = .returned (.bool (wB n a b)) ∧ w' = w := by
  by_cases h : a ≤ n
  · have e : wB n a b = decide (n ≤ b) := by simp [wB, h]
    rw [e]
    clear e
    go_enter Tryz.func247, Tryz.ntmps247
    go_wp2
    go_ret
    exact ⟨rfl, rfl⟩
  · have e : wB n a b = false := by simp [wB, h]
    rw [e]
    clear e
    go_enter Tryz.func247, Tryz.ntmps247
    go_wp2
    go_ret
    exact ⟨rfl, rfl⟩
theorem r4check_any (s : Int) (w : World) : Calls Tryz.prog 248 #[.int .u16 s] w fun e w' => e = .returned (.bool (decide (s < 256))) ∧ w' = w := by
  go_enter Tryz.func248, Tryz.ntmps248
  go_wp2
  go_ret
  exact ⟨rfl, rfl⟩
end Go.Proofs.YtknlcjhcamhfmaaGreatDoor
namespace Go.Proofs.YtknlcjhcamhfmaaGreatDoor
open Go.RowKit

set_option maxHeartbeats 2000000 in
theorem r7name_any (s : ByteArray) (w : World) : Calls Tryz.prog 194 #[.string s] w fun e w' => e = .returned (.bool (nameOk s.data.toList)) ∧ w' = w := by
  have HL : Hid (s.data.toList.length = s.size) := (Lib.size_eq s).symm
  by_cases h0 : s.size = 0
  · have hb : (s.size : Int) < 1 := by omega
    rw [show s.data.toList = [] from List.eq_nil_of_length_eq_zero (by rw [HL.out]; exact h0)]
    clear h0
    go_enter Tryz.func194, Tryz.ntmps194
    go_wp2
    go_ret
    exact ⟨rfl, rfl⟩
  · have hb : ¬ (s.size : Int) < 1 := by omega
    by_cases h1 : 20 < s.size
    · have hb1 : (20 : Int) < (s.size : Int) := by omega
      rw [name_no_len (by rw [HL.out]; exact h1)]
      clear h0 h1
      go_enter Tryz.func194, Tryz.ntmps194
      go_wp2
      go_ret
      exact ⟨rfl, rfl⟩
    · have hb1 : ¬ (20 : Int) < (s.size : Int) := by omega
      have hp : 0 < s.size := by omega
      have B0 : Hid (s.data.toList[0]? = some s[0]) := byte_at s 0 hp
      have H1 : Hid (s.data.toList.length ≤ 20) := by rw [Hid, HL.out]; omega
      clear h0 h1
      by_cases hc : (s[0].toNat : Int) < 97
      · rw [name_no_first B0.out (by have : ¬ 97 ≤ s[0].toNat := by omega
                                     simp [letter, this])]
        go_enter Tryz.func194, Tryz.ntmps194
        go_wp2
        go_ret
        exact ⟨rfl, rfl⟩
      by_cases hd : (122 : Int) < (s[0].toNat : Int)
      · rw [name_no_first B0.out (by have : ¬ s[0].toNat ≤ 122 := by omega
                                     simp [letter, this])]
        go_enter Tryz.func194, Tryz.ntmps194
        go_wp2
        go_ret
        exact ⟨rfl, rfl⟩
      · have HC : Hid (letter s[0] = true) := by
          have h1 : 97 ≤ s[0].toNat := by omega
          have h2 : s[0].toNat ≤ 122 := by omega
          simp [Hid, letter, h1, h2]
        go_enter Tryz.func194, Tryz.ntmps194
        go_wp2
        go_loopw [3] (fun t wr => wr = w ∧ ∃ i : Nat, i ≤ s.size ∧ t = .int .i64 i ∧ ∀ j x, j < i → s.data.toList[j]? = some x → okb x = true) (fun t _ => s.size - (intOf t).toNat)
        case atStart => exact ⟨rfl, 0, Nat.zero_le _, rfl, fun j x hj => absurd hj (by omega)⟩
        case round =>
          obtain ⟨rfl, i, hi, rfl, ha⟩ := hrel
          have HA : Hid (∀ j x, j < i → s.data.toList[j]? = some x → okb x = true) := ha
          clear ha
          by_cases hl : i < s.size
          · have hl' : (i : Int) < (s.size : Int) := by omega
            have BI : Hid (s.data.toList[i]? = some s[i]) := byte_at s i hl
            by_cases a : (s[i].toNat : Int) < 97
            · by_cases hd : s[i] = 45
              · have hq : ((s[i].toNat : Int) != 45) = false := by simp [hd]
                have HN : Hid (okb s[i] = true) := by simp [Hid, okb, hd]
                clear hd
                go_wp2
                go_roundw
                case rel => exact ⟨trivial, i + 1, by omega, by go_num, fun j x hj hx => by
                  rcases (show j < i ∨ j = i from by omega) with h' | rfl
                  · exact HA.out j x h' hx
                  · rw [BI.out] at hx; cases hx; exact HN.out⟩
                case measure => simp [intOf]; omega
              · have hq : ((s[i].toNat : Int) != 45) = true := by
                  have : ¬ (s[i].toNat : Int) = 45 := fun e => hd (UInt8.toNat_inj.1 (by simpa using (by omega : s[i].toNat = 45)))
                  exact bne_no this
                have HN : Hid (okb s[i] = false) := by
                  have : ¬ 97 ≤ s[i].toNat := by omega
                  simp [Hid, okb, letter, this, hd]
                clear hd
                go_wp2
                go_ret
                exact ⟨ret_bool (name_no_at BI.out HN.out).symm, rfl⟩
            · by_cases a' : (122 : Int) < (s[i].toNat : Int)
              · have hd : ¬ s[i] = 45 := by
                  intro h
                  rw [h] at a'
                  exact absurd a' (by decide)
                have hq : ((s[i].toNat : Int) != 45) = true := bne_no (by omega)
                have HN : Hid (okb s[i] = false) := by
                  have : ¬ s[i].toNat ≤ 122 := by omega
                  simp [Hid, okb, letter, this, hd]
                clear hd
                go_wp2
                go_ret
                exact ⟨ret_bool (name_no_at BI.out HN.out).symm, rfl⟩
              · have HN : Hid (okb s[i] = true) := by
                  have h1 : 97 ≤ s[i].toNat := by omega
                  have h2 : s[i].toNat ≤ 122 := by omega
                  simp [Hid, okb, letter, h1, h2]
                go_wp2
                go_roundw
                case rel => exact ⟨trivial, i + 1, by omega, by go_num, fun j x hj hx => by
                  rcases (show j < i ∨ j = i from by omega) with h' | rfl
                  · exact HA.out j x h' hx
                  · rw [BI.out] at hx; cases hx; exact HN.out⟩
                case measure => simp [intOf]; omega
          · have hl' : ¬ (i : Int) < (s.size : Int) := by omega
            have HY : Hid (nameOk s.data.toList = true) := by
              have ALL : ∀ (j : Nat) x, s.data.toList[j]? = some x → okb x = true := fun j x hx => HA.out j x (by
                have := (List.getElem?_eq_some_iff.1 hx).1
                rw [HL.out] at this
                omega) hx
              have L0 : letter s[0] = true := HC.out
              exact name_yes B0.out L0 H1.out ALL
            go_wp2
            go_ret
            exact ⟨ret_bool HY.out.symm, rfl⟩

theorem w64s (x : Int) (h0 : 0 ≤ x) (h1 : x < 1000) : wrap64 x = x := by unfold wrap64; omega
/-- The document's book: 32 cells; its list of cards is a slice. -/
def rcells (v : Value) (p : Pl) : List Value := .bool true :: .bool p.shut :: v :: (p.nms.map Value.string ++ mcells p.mks)
structure RJ (w : World) (b : Nat) (v : Value) (p : Pl) : Prop where
  lies : w.heap[b]? = some (.cells (rcells v p).toArray 139 (0, 0))
  nine : p.nms.length = 9
  five : p.mks.length = 5
theorem RJ.keepR {w w' : World} {b : Nat} {v : Value} {p : Pl} {r : Option Nat} (h : RJ w b v p) (g : w.grownBy w' r) (hr : some b ≠ r) : RJ w' b v p := ⟨grown_keep g h.lies hr, h.nine, h.five⟩
theorem RJ.keep {w w' : World} {b : Nat} {v : Value} {p : Pl} (h : RJ w b v p) (g : w.grownBy w' none) : RJ w' b v p := h.keepR g (by simp)
theorem RJ.made {w : World} {b : Nat} {v : Value} {p : Pl} (h : RJ w b v p) : w.cell? ⟨b, 0, none⟩ = some (.bool true) := block_cell h.lies 0
theorem RJ.shut {w : World} {b : Nat} {v : Value} {p : Pl} (h : RJ w b v p) : w.cell? ⟨b, 1, none⟩ = some (.bool p.shut) := block_cell h.lies 1
theorem RJ.list {w : World} {b : Nat} {v : Value} {p : Pl} (h : RJ w b v p) : w.cell? ⟨b, 2, none⟩ = some v := block_cell h.lies 2
theorem RJ.free {w : World} {b : Nat} {v : Value} {p : Pl} (h : RJ w b v p) (i : Nat) : w.frozen? ⟨b, i, none⟩ = false := block_free h.lies i
theorem RJ.name {w : World} {b : Nat} {v : Value} {p : Pl} (h : RJ w b v p) {t : Nat} {s : ByteArray} (ht : p.nms[t]? = some s) : w.cell? ⟨b, 3 + t, none⟩ = some (.string s) := by
  have hl : t < p.nms.length := (List.getElem?_eq_some_iff.1 ht).1
  rw [block_cell h.lies, List.getElem?_toArray]
  unfold rcells
  rw [show 3 + t = t + 1 + 1 + 1 by omega, List.getElem?_cons_succ, List.getElem?_cons_succ, List.getElem?_cons_succ, List.getElem?_append_left (by simpa using hl), List.getElem?_map, ht]
  rfl
theorem RJ.mark {w : World} {b : Nat} {v : Value} {p : Pl} (h : RJ w b v p) {t : Nat} {m : Mk} (ht : p.mks[t]? = some m) : M4 w b (12 + t * 4) m := by
  have at_ : ∀ k u, k < 4 → (mvs m)[k]? = some u → w.cell? ⟨b, 12 + t * 4 + k, none⟩ = some u := fun k u hk hu => by
    rw [block_cell h.lies, List.getElem?_toArray]
    unfold rcells
    rw [show 12 + t * 4 + k = 9 + (t * 4 + k) + 1 + 1 + 1 by omega, List.getElem?_cons_succ, List.getElem?_cons_succ, List.getElem?_cons_succ, List.getElem?_append_right (by simp [h.nine]), List.length_map, h.nine, show 9 + (t * 4 + k) - 9 = t * 4 + k by omega, mcells_at _ _ _ ht k hk]
    exact hu
  exact ⟨at_ 0 _ (by omega) rfl, at_ 1 _ (by omega) rfl, at_ 2 _ (by omega) rfl, at_ 3 _ (by omega) rfl⟩
/-- Where the list of cards lies. -/
def RL (w : World) (v : Value) (fs : List Ent) : Prop := (v = .slice none 0 0 ∧ fs = []) ∨ ∃ g cap, v = .slice (some ⟨g, 0, none⟩) fs.length cap ∧ EsAt w g 0 fs
theorem RL.keep {w w' : World} {v : Value} {fs : List Ent} (h : RL w v fs) (g : w.grownBy w' none) : RL w' v fs := by
  rcases h with h | ⟨x, c, e, k⟩
  · exact Or.inl h
  · exact Or.inr ⟨x, c, e, k.keep g⟩
theorem C9.keepR {w w' : World} {g o : Nat} {h : Hd} {v : Value} {r : Option Nat} (k : C9 w g o h v) (hg : w.grownBy w' r) (hr : some g ≠ r) : C9 w' g o h v :=
  ⟨hg.cell k.c0 hr, hg.cell k.c1 hr, hg.cell k.c2 hr, hg.cell k.c3 hr, hg.cell k.c4 hr, hg.cell k.c5 hr, hg.cell k.c6 hr, hg.cell k.c7 hr, hg.cell k.c8 hr⟩
theorem RL.keepR {w w' : World} {v : Value} {fs : List Ent} {r : Option Nat} (h : RL w v fs) (g : w.grownBy w' r) (hr : ∀ k, v.ownBlock = some k → some k ≠ r) : RL w' v fs := by
  rcases h with h | ⟨x, c, rfl, k⟩
  · exact Or.inl h
  · exact Or.inr ⟨x, c, rfl, fun j e he => (k j e he).keepR g (hr x rfl)⟩
theorem RL.form {w : World} {v : Value} {fs : List Ent} (h : RL w v fs) : ∃ a c, v = .slice a fs.length c := by
  rcases h with ⟨rfl, rfl⟩ | ⟨x, c, rfl, _⟩
  · exact ⟨_, _, rfl⟩
  · exact ⟨_, _, rfl⟩
theorem RL.row {w : World} {v : Value} {fs : List Ent} (h : RL w v fs) (h0 : 0 < fs.length) : ∃ g c, v = .slice (some ⟨g, 0, none⟩) fs.length c ∧ ∀ (j : Nat) e, fs[j]? = some e → C9 w g (j * 9) e.h e.v := by
  rcases h with ⟨rfl, rfl⟩ | ⟨x, c, rfl, k⟩
  · simp at h0
  · exact ⟨x, c, rfl, fun j e he => by have := k j e he; rw [Nat.zero_add] at this; exact this⟩
def rbA : Array Value := (rcells (.slice none 0 0) plNew).toArray
theorem run_buildRb (w : World) : (Instr.build 139 #[(0, .bool true)]).run Tryz.prog w = .ok (.agg rbA) w := by kernel_rfl
theorem run_boxRb (cs : Array Value) (w : World) : (Instr.box 139 (.agg cs)).run Tryz.prog w = .ok (.pointer (some ⟨w.heap.size, 0, none⟩)) (w.alloc (.cells cs 139)) := rfl
set_option maxRecDepth 100000 in
theorem rnew_any (w : World) : Calls Tryz.prog 63 #[] w fun e w' => e = .returned (.pointer (some ⟨w.heap.size, 0, none⟩)) ∧ RJ w' w.heap.size (.slice none 0 0) plNew ∧ w.grownBy w' none ∧ w'.heap.size = w.heap.size + 1 := by
  go_enter Tryz.func63, Tryz.ntmps63
  go_wp2_with (first | (refine wpl_build ?g 139 #[(0, .const (.bool true))] ?ho #[(0, .bool true)] ?hv (.agg rbA) (run_buildRb _) ?_; (case g => rfl); (case ho => rfl); (case hv => simp [Act.eval])) | (refine wpl_box ?g 139 (.tmp 1) ?ho (.agg rbA) ?hv _ (run_boxRb rbA _) ?_; (case g => rfl); (case ho => rfl); (case hv => simp [Act.eval])) | fail)
  go_ret
  refine ⟨rfl, ⟨?_, rfl, rfl⟩, World.grownBy_alloc w _ none, by simp⟩
  exact alloc_at w rbA 139
set_option maxHeartbeats 1000000 in
theorem rnone_any (b : Nat) (v : Value) (p : Pl) (w : World) (R : RJ w b v p) : Calls Tryz.prog 108 #[.pointer (some ⟨b, 0, none⟩)] w fun e w' => e = .returned (.bool false) ∧ w' = w := by
  have c := R.made
  clear R
  go_enter Tryz.func108, Tryz.ntmps108
  go_wp2
  go_ret
  exact ⟨rfl, rfl⟩
set_option maxHeartbeats 1000000 in
theorem rlen_any (b : Nat) (v : Value) (p : Pl) (fs : List Ent) (w : World) (R : RJ w b v p) (L : RL w v fs) : Calls Tryz.prog 45 #[.pointer (some ⟨b, 0, none⟩)] w fun e w' => e = .returned (.int .i64 (fs.length : Int)) ∧ w' = w := by
  have HR : Hid (RJ w b v p) := R
  have c := R.list
  obtain ⟨a, k, rfl⟩ := L.form
  clear R L
  go_enter Tryz.func45, Tryz.ntmps45
  go_wp2_with fail
  refine (rnone_any b _ p w HR.out).mono ?_
  rintro e w1 ⟨rfl, h1⟩
  obtain rfl : w = w1 := h1.symm
  go_wp2
  go_ret
  exact ⟨rfl, rfl⟩
set_option maxRecDepth 100000 in
set_option maxHeartbeats 2000000 in
theorem rplace_any (b : Nat) (v : Value) (p : Pl) (fs : List Ent) (s : ByteArray) (w : World) (R : RJ w b v p) (L : RL w v fs) (hl : fs.length ≤ 64) : Calls Tryz.prog 142 #[.pointer (some ⟨b, 0, none⟩), .string s] w fun e w' => e = .returned (.int .i64 (pos (names fs) s)) ∧ w' = w := by
  have c := R.list
  have HL : Hid (RL w v fs) := L
  obtain ⟨a, k, rfl⟩ := L.form
  have hsm : Small fs.length := by unfold Small; omega
  clear R L
  go_enter Tryz.func142, Tryz.ntmps142
  go_wp2_with fail
  go_loopw [5] (fun x5 wr => wr = w ∧ ∃ i : Nat, i ≤ fs.length ∧ x5 = .int .i64 (i : Int) ∧ NoneTo fs s i) (fun x5 _ => fs.length - (intOf x5).toNat)
  case atStart => exact ⟨rfl, 0, Nat.zero_le _, rfl, fun j e hj => absurd hj (by omega)⟩
  case round =>
    obtain ⟨rfl, i, hi, rfl, hN⟩ := hrel
    have HN : Hid (NoneTo fs s i) := hN
    clear hN
    rcases (show i < fs.length ∨ i = fs.length from by omega) with hil | hie
    · have i0 : (0 : Int) ≤ (i : Int) := by omega
      have i1 : (i : Int) < (fs.length : Int) := by omega
      obtain ⟨g, cap, ev, hrow⟩ := HL.out.row (by omega)
      injection ev with e1 _ e3
      subst e1
      subst e3
      obtain ⟨e, he⟩ : ∃ e, fs[i]? = some e := ⟨_, List.getElem?_eq_getElem hil⟩
      have c0 := (hrow i e he).c0
      by_cases hs : e.h.nm = s
      · have hq := bytes_yes hs
        have HP : Hid (pos (names fs) s = (i : Int)) := noneTo_hit HN.out he hs
        clear hrow he hs hi
        go_wp2
        go_ret
        exact ⟨ret_int HP.out.symm, rfl⟩
      · have hq := bytes_no hs
        have HN2 : Hid (NoneTo fs s (i + 1)) := noneTo_next HN.out he hs
        clear hrow he hs hi
        go_wp2_with fail
        go_roundw
        case rel => exact ⟨by first | rfl | trivial, i + 1, hil, by first | rfl | (rw [hsm.wrap hil]; rfl), HN2.out⟩
        case measure => first | exact meas_next hil | (rw [hsm.wrap hil]; exact meas_next hil)
    · have i1 : ¬ (i : Int) < (fs.length : Int) := by omega
      have HP : Hid (pos (names fs) s = -1) := noneTo_end (by rw [← hie]; exact HN.out)
      clear hie hi
      go_wp2
      go_ret
      exact ⟨ret_int HP.out.symm, rfl⟩
end Go.Proofs.YtknlcjhcamhfmaaGreatDoor
namespace Go.Proofs.YtknlcjhcamhfmaaGreatDoor
open Go.RowKit

theorem RJ.setN {w : World} {b : Nat} {v : Value} {p : Pl} (h : RJ w b v p) {t : Nat} (ht : t < 9) (s : ByteArray) : RJ (w.setCell ⟨b, 3 + t, none⟩ (.string s)) b v { p with nms := p.nms.set t s } := by
  refine ⟨?_, by simpa using h.nine, h.five⟩
  rw [block_set h.lies]
  congr 2
  rw [List.setIfInBounds_toArray]
  congr 1
  unfold rcells
  rw [show 3 + t = t + 1 + 1 + 1 by omega]
  simp only [List.set_cons_succ]
  rw [List.set_append_left _ _ (by simp [h.nine]; omega), List.map_set]
/-- No name of these is the name, and that of the trait is free. -/
def NoT (p : Pl) (t : Nat) (s : ByteArray) (i : Nat) : Prop := ∀ (j : Nat) x, 1 ≤ j → j < i → p.nms[j]? = some x → ¬ x = s ∧ (j = t → x = ⟨#[]⟩)
theorem empty_name : nameOk (ByteArray.mk #[]).data.toList = false := rfl
theorem trE_hit {p : Pl} {t i : Nat} {s x : ByteArray} (hs : p.shut = false) (h1 : 1 ≤ t) (h8 : t ≤ 8) (hn : nameOk s.data.toList = true) (hx : p.nms[i]? = some x) (h : x = s ∨ (i = t ∧ ¬ x = ⟨#[]⟩)) : trE p (t : Int) s = 5 := by
  unfold trE
  rw [if_neg (by simp [hs]), if_neg (by omega), if_neg (by simp [hn]), if_pos ?_]
  rcases h with rfl | ⟨rfl, h⟩
  · right
    apply Classical.byContradiction
    intro hc
    exact pos_no (Int.not_le.1 hc) (List.mem_of_getElem? hx)
  · left
    rw [Int.toNat_natCast, List.getD_eq_getElem?_getD, hx]
    exact h
theorem trE_free {p : Pl} {t : Nat} {s : ByteArray} (hs : p.shut = false) (h1 : 1 ≤ t) (h8 : t ≤ 8) (hn : nameOk s.data.toList = true) (h9 : p.nms.length = 9) (hz : p.nms[0]? = some ⟨#[]⟩) (h : NoT p t s 9) : trE p (t : Int) s = 0 := by
  unfold trE
  rw [if_neg (by simp [hs]), if_neg (by omega), if_neg (by simp [hn]), if_neg ?_]
  rintro (h2 | h2)
  · obtain ⟨x, hx⟩ : ∃ x, p.nms[t]? = some x := ⟨_, List.getElem?_eq_getElem (by omega)⟩
    rw [Int.toNat_natCast, List.getD_eq_getElem?_getD, hx] at h2
    exact h2 ((h t x h1 (by omega) hx).2 rfl)
  · have hm := pos_yes _ _ h2
    have hl := (List.getElem?_eq_some_iff.1 hm).1
    by_cases h0 : (pos p.nms s).toNat = 0
    · rw [h0, hz] at hm
      obtain rfl := Option.some.inj hm
      rw [empty_name] at hn
      cases hn
    · exact (h _ s (by omega) (by omega) hm).1 rfl
theorem NoT.next {p : Pl} {t i : Nat} {s x : ByteArray} (h : NoT p t s i) (hx : p.nms[i]? = some x) (h1 : ¬ x = s) (h2 : i = t → x = ⟨#[]⟩) : NoT p t s (i + 1) := fun j y hj1 hj hy => by
  rcases (show j < i ∨ j = i from by omega) with hji | rfl
  · exact h j y hj1 hji hy
  · rw [hx] at hy
    obtain rfl := Option.some.inj hy
    exact ⟨h1, h2⟩
set_option maxRecDepth 100000 in
set_option maxHeartbeats 4000000 in
theorem rtrait_any (b : Nat) (v : Value) (p : Pl) (t : Nat) (s : ByteArray) (w : World) (R : RJ w b v p) (ht : t ≤ 255) (hz : p.nms[0]? = some ⟨#[]⟩) : Calls Tryz.prog 139 #[.pointer (some ⟨b, 0, none⟩), .int .u8 (t : Int), .string s] w fun e w' => e = .returned (.int .i64 (trE p (t : Int) s)) ∧ RJ w' b v (trP p (t : Int) s) ∧ w.grownBy w' (some b) := by
  have HR : Hid (RJ w b v p) := R
  have HZ : Hid (p.nms[0]? = some ⟨#[]⟩) := hz
  have c1 := R.shut
  clear R hz
  cases hs : p.shut with
  | true =>
    rw [hs] at c1
    have e1 : trE p (t : Int) s = 7 := if_pos hs
    have e2 : trP p (t : Int) s = p := if_neg (by rw [e1]; decide)
    rw [e1, e2]
    clear e1 e2 hs
    go_enter Tryz.func139, Tryz.ntmps139
    go_wp2_with fail
    refine (rnone_any b _ p w HR.out).mono ?_
    rintro e w1 ⟨rfl, h1⟩
    obtain rfl : w = w1 := h1.symm
    go_wp2
    go_ret
    exact ⟨rfl, HR.out, grown_refl _ _⟩
  | false =>
    rw [hs] at c1
    by_cases hr : t < 1 ∨ 8 < t
    · have e1 : trE p (t : Int) s = 2 := by unfold trE; rw [if_neg (by simp [hs]), if_pos (by omega)]
      have e2 : trP p (t : Int) s = p := if_neg (by rw [e1]; decide)
      rw [e1, e2]
      clear e1 e2 hs
      rcases (show (t : Int) < 1 ∨ (¬ (t : Int) < 1 ∧ (8 : Int) < (t : Int)) by omega) with h | ⟨h, h'⟩
      all_goals
        clear hr
        go_enter Tryz.func139, Tryz.ntmps139
        go_wp2_with fail
        refine (rnone_any b _ p w HR.out).mono ?_
        rintro e w1 ⟨rfl, h1⟩
        obtain rfl : w = w1 := h1.symm
        go_wp2
        go_ret
        exact ⟨rfl, HR.out, grown_refl _ _⟩
    · have t1 : ¬ (t : Int) < 1 := by omega
      have t8 : ¬ (8 : Int) < (t : Int) := by omega
      have HT : Hid (1 ≤ t ∧ t ≤ 8) := ⟨by omega, by omega⟩
      clear hr ht
      cases hn : nameOk s.data.toList with
      | false =>
        have e1 : trE p (t : Int) s = 4 := by unfold trE; rw [if_neg (by simp [hs]), if_neg (by omega), if_pos hn]
        have e2 : trP p (t : Int) s = p := if_neg (by rw [e1]; decide)
        have HN := r7name_any s w
        rw [hn] at HN
        rw [e1, e2]
        clear e1 e2 hs hn
        go_enter Tryz.func139, Tryz.ntmps139
        go_wp2_with fail
        refine (rnone_any b _ p w HR.out).mono ?_
        rintro e w1 ⟨rfl, h1⟩
        obtain rfl : w = w1 := h1.symm
        go_wp2_with fail
        refine HN.mono ?_
        rintro e w1 ⟨rfl, h1⟩
        obtain rfl : w = w1 := h1.symm
        go_wp2
        go_ret
        exact ⟨rfl, HR.out, grown_refl _ _⟩
      | true =>
        have HN := r7name_any s w
        rw [hn] at HN
        have HNm : Hid (nameOk s.data.toList = true) := hn
        have HSh : Hid (p.shut = false) := hs
        have s9 : Small 9 := by unfold Small; decide
        clear hs hn
        go_enter Tryz.func139, Tryz.ntmps139
        go_wp2_with fail
        refine (rnone_any b _ p w HR.out).mono ?_
        rintro e w1 ⟨rfl, h1⟩
        obtain rfl : w = w1 := h1.symm
        go_wp2_with fail
        refine HN.mono ?_
        rintro e w1 ⟨rfl, h1⟩
        obtain rfl : w = w1 := h1.symm
        clear HN
        go_wp2_with fail
        go_loopw [7] (fun x7 wr => wr = w ∧ ∃ i : Nat, 1 ≤ i ∧ i ≤ 9 ∧ x7 = .int .i64 (i : Int) ∧ NoT p t s i) (fun x7 _ => 9 - (intOf x7).toNat)
        case atStart => exact ⟨rfl, 1, Nat.le_refl _, by decide, rfl, fun j x h1 h2 => absurd h2 (by omega)⟩
        case round =>
          obtain ⟨rfl, i, hi1, hi9, rfl, hN⟩ := hrel
          have HNo : Hid (NoT p t s i) := hN
          clear hN
          rcases (show i < 9 ∨ i = 9 from by omega) with hil | hie
          · have i0 : (0 : Int) ≤ (i : Int) := by omega
            have i8 : (i : Int) ≤ 8 := by omega
            have i9 : (i : Int) < 9 := by omega
            have im : (i : Int) % 256 = (i : Int) := by omega
            obtain ⟨x, hx⟩ : ∃ x, p.nms[i]? = some x := ⟨_, List.getElem?_eq_getElem (by rw [HR.out.nine]; exact hil)⟩
            have cx := HR.out.name hx
            by_cases hxs : x = s
            · have q1 := bytes_yes hxs
              have e1 : Hid (trE p (t : Int) s = 5) := trE_hit HSh.out HT.out.1 HT.out.2 HNm.out hx (Or.inl hxs)
              have e2 : Hid (trP p (t : Int) s = p) := if_neg (by rw [e1.out]; decide)
              by_cases hit : i = t
              · have q2 : ((i : Int) == (t : Int)) = true := by simp [hit]
                by_cases hxe : x = ⟨#[]⟩
                · have q3 := bytes_yes hxe
                  have q4 : (x.toList == []) = true := by rw [hxe, empty_list]; rfl
                  clear hx hit hxe hxs
                  go_wp2
                  go_ret
                  exact ⟨ret_int e1.out.symm, by rw [e2.out]; exact HR.out, grown_refl _ _⟩
                · have q4 := toList_ne hxe
                  clear hx hit hxe hxs
                  go_wp2
                  go_ret
                  exact ⟨ret_int e1.out.symm, by rw [e2.out]; exact HR.out, grown_refl _ _⟩
              · have q2 : ((i : Int) == (t : Int)) = false := by simpa using (show ¬ (i : Int) = (t : Int) by omega)
                clear hx hit hxs
                go_wp2
                go_ret
                exact ⟨ret_int e1.out.symm, by rw [e2.out]; exact HR.out, grown_refl _ _⟩
            · have q1 := bytes_no hxs
              by_cases hit : i = t
              · have q2 : ((i : Int) == (t : Int)) = true := by simp [hit]
                by_cases hxe : x = ⟨#[]⟩
                · have q4 : (x.toList == []) = true := by rw [hxe, empty_list]; rfl
                  have HN2 : Hid (NoT p t s (i + 1)) := HNo.out.next hx hxs (fun _ => hxe)
                  clear hx hit hxe hxs hi1 hi9
                  go_wp2_with fail
                  go_roundw
                  case rel => exact ⟨by first | rfl | trivial, i + 1, by omega, hil, by first | rfl | (rw [s9.wrap hil]; rfl), HN2.out⟩
                  case measure => first | exact meas_next hil | (rw [s9.wrap hil]; exact meas_next hil)
                · have q4 := toList_ne hxe
                  have e1 : Hid (trE p (t : Int) s = 5) := trE_hit HSh.out HT.out.1 HT.out.2 HNm.out hx (Or.inr ⟨hit, hxe⟩)
                  have e2 : Hid (trP p (t : Int) s = p) := if_neg (by rw [e1.out]; decide)
                  clear hx hit hxe hxs
                  go_wp2
                  go_ret
                  exact ⟨ret_int e1.out.symm, by rw [e2.out]; exact HR.out, grown_refl _ _⟩
              · have q2 : ((i : Int) == (t : Int)) = false := by simpa using (show ¬ (i : Int) = (t : Int) by omega)
                have HN2 : Hid (NoT p t s (i + 1)) := HNo.out.next hx hxs (fun e => absurd e hit)
                clear hx hit hxs hi1 hi9
                go_wp2_with fail
                go_roundw
                case rel => exact ⟨by first | rfl | trivial, i + 1, by omega, hil, by first | rfl | (rw [s9.wrap hil]; rfl), HN2.out⟩
                case measure => first | exact meas_next hil | (rw [s9.wrap hil]; exact meas_next hil)
          · have i8 : ¬ (i : Int) ≤ 8 := by omega
            have e1 : Hid (trE p (t : Int) s = 0) := trE_free HSh.out HT.out.1 HT.out.2 HNm.out HR.out.nine HZ.out (by rw [← hie]; exact HNo.out)
            have e2 : Hid (trP p (t : Int) s = { p with nms := p.nms.set t s }) := by
              show trP p (t : Int) s = _
              unfold trP
              rw [if_pos e1.out, Int.toNat_natCast]
            have HS9 : Hid (RJ (wr.setCell ⟨b, 3 + t, none⟩ (.string s)) b v { p with nms := p.nms.set t s }) := HR.out.setN (by have := HT.out; omega) s
            obtain ⟨x, hx⟩ : ∃ x, p.nms[t]? = some x := ⟨_, List.getElem?_eq_getElem (by rw [HR.out.nine]; have := HT.out; omega)⟩
            have cx := HR.out.name hx
            have cf := fun i => HR.out.free i
            have t0 : (0 : Int) ≤ (t : Int) := by omega
            have t9 : (t : Int) < 9 := by omega
            clear hie hi1 hi9 hx
            go_wp2
            go_ret
            exact ⟨ret_int e1.out.symm, by rw [e2.out]; exact HS9.out, grown_set _ _ _ _⟩
set_option maxHeartbeats 2000000 in
theorem rtraitName_any (b : Nat) (v : Value) (p : Pl) (t : Nat) (w : World) (R : RJ w b v p) (ht : t ≤ 255) (hz : p.nms[0]? = some ⟨#[]⟩) : Calls Tryz.prog 52 #[.pointer (some ⟨b, 0, none⟩), .int .u8 (t : Int)] w fun e w' => e = .returned (.tuple #[.string (tnS p (t : Int)), .bool (tnB p (t : Int))]) ∧ w' = w := by
  have HR : Hid (RJ w b v p) := R
  clear R
  by_cases hr : t < 1 ∨ 8 < t
  · have e1 : tnS p (t : Int) = ⟨#[]⟩ := by
      unfold tnS
      by_cases h9 : (t : Int) < 9
      · rw [if_pos h9, show (t : Int).toNat = 0 by omega, List.getD_eq_getElem?_getD, hz]
        rfl
      · rw [if_neg h9]
    have e2 : tnB p (t : Int) = false := by unfold tnB; rw [e1]; rfl
    rw [e1, e2]
    clear e1 e2 hz
    rcases (show (t : Int) < 1 ∨ (¬ (t : Int) < 1 ∧ (8 : Int) < (t : Int)) by omega) with h | ⟨h, h'⟩
    all_goals
      clear hr
      go_enter Tryz.func52, Tryz.ntmps52
      go_wp2_with fail
      refine (rnone_any b _ p w HR.out).mono ?_
      rintro e w1 ⟨rfl, h1⟩
      obtain rfl : w = w1 := h1.symm
      go_wp2
      refine bodyPost_ret (v := .tuple #[.string ⟨#[]⟩, .bool false]) (by simp [results, Tryz.results52, go_sem]) rfl ⟨rfl, rfl⟩
  · have t1 : ¬ (t : Int) < 1 := by omega
    have t8 : ¬ (8 : Int) < (t : Int) := by omega
    have t0 : (0 : Int) ≤ (t : Int) := by omega
    have t9 : (t : Int) < 9 := by omega
    obtain ⟨x, hx⟩ : ∃ x, p.nms[t]? = some x := ⟨_, List.getElem?_eq_getElem (by rw [HR.out.nine]; omega)⟩
    have cx := HR.out.name hx
    have e1 : tnS p (t : Int) = x := by unfold tnS; rw [if_pos t9, Int.toNat_natCast, List.getD_eq_getElem?_getD, hx]; rfl
    have e2 : tnB p (t : Int) = !decide (x = ⟨#[]⟩) := by unfold tnB; rw [e1]
    rw [e1, e2]
    clear e1 e2 hx hr hz ht
    by_cases hxe : x = ⟨#[]⟩
    · have q4 : (x.toList == []) = true := by rw [hxe, empty_list]; rfl
      rw [decide_eq_true hxe]
      subst hxe
      go_enter Tryz.func52, Tryz.ntmps52
      go_wp2_with fail
      refine (rnone_any b _ p w HR.out).mono ?_
      rintro e w1 ⟨rfl, h1⟩
      obtain rfl : w = w1 := h1.symm
      go_wp2
      refine bodyPost_ret (v := .tuple #[.string ⟨#[]⟩, .bool false]) (by simp [results, Tryz.results52, go_sem]) rfl ⟨rfl, rfl⟩
    · have q4 := toList_ne hxe
      rw [decide_eq_false hxe]
      clear hxe
      go_enter Tryz.func52, Tryz.ntmps52
      go_wp2_with fail
      refine (rnone_any b _ p w HR.out).mono ?_
      rintro e w1 ⟨rfl, h1⟩
      obtain rfl : w = w1 := h1.symm
      go_wp2
      refine bodyPost_ret (v := .tuple #[.string x, .bool true]) (by simp [results, Tryz.results52, go_sem]) rfl ⟨rfl, rfl⟩
end Go.Proofs.YtknlcjhcamhfmaaGreatDoor
namespace Go.Proofs.YtknlcjhcamhfmaaGreatDoor
open Go.RowKit

/-- What is marked is marked whole. -/
def MkD (p : Pl) : Prop := p.mks[0]? = some Mk.none ∧ ∀ m ∈ p.mks, m = Mk.none ∨ (¬ m.mi = 0 ∧ ¬ m.nm = ⟨#[]⟩)
set_option maxRecDepth 100000 in
set_option maxHeartbeats 2000000 in
theorem rmarkOf_any (b : Nat) (v : Value) (p : Pl) (t : Nat) (w : World) (R : RJ w b v p) (ht : t ≤ 255) (hD : MkD p) : Calls Tryz.prog 54 #[.pointer (some ⟨b, 0, none⟩), .int .u8 (t : Int)] w fun e w' => e = .returned (.tuple #[mv (moM p (t : Int)), .bool (moB p (t : Int))]) ∧ w.grownBy w' none := by
  obtain ⟨W1, hW1⟩ : ∃ W1, W1 = w.alloc (.cells #[.int .u8 0, .string ⟨#[]⟩, .int .i64 0, .int .i64 0] 60) := ⟨_, rfl⟩
  have HG1 : Hid (w.grownBy W1 none) := by rw [hW1]; exact World.grownBy_alloc _ _ none
  have A : W1.heap[w.heap.size]? = some (.cells #[.int .u8 0, .string ⟨#[]⟩, .int .i64 0, .int .i64 0] 60 (0, 0)) := by rw [hW1]; exact alloc_at w #[.int .u8 0, .string ⟨#[]⟩, .int .i64 0, .int .i64 0] 60
  have HR : Hid (RJ W1 b v p) := R.keep HG1.out
  have c0 := block_cell A 0
  have c1 := block_cell A 1
  have c2 := block_cell A 2
  have c3 := block_cell A 3
  have cf := fun i => block_free A i
  clear A R
  by_cases hr : t < 1 ∨ 4 < t
  · have e1 : moM p (t : Int) = Mk.none := by
      unfold moM
      by_cases h9 : (t : Int) < 5
      · rw [if_pos h9, show (t : Int).toNat = 0 by omega, List.getD_eq_getElem?_getD, hD.1]
        rfl
      · rw [if_neg h9]
    have e2 : moB p (t : Int) = false := by unfold moB; rw [e1]; rfl
    rw [e1, e2]
    clear e1 e2 hD
    rcases (show (t : Int) < 1 ∨ (¬ (t : Int) < 1 ∧ (4 : Int) < (t : Int)) by omega) with h | ⟨h, h'⟩
    all_goals
      clear hr
      go_enter Tryz.func54, Tryz.ntmps54
      go_upto_region 1 with fail
      rw [← hW1]
      clear hW1
      go_wp2_with (first | (go_at_call 108; refine (rnone_any b _ p _ HR.out).mono ?_; rintro e w1 ⟨rfl, h1⟩; obtain rfl : W1 = w1 := h1.symm) | fail)
      refine bodyPost_ret (v := .tuple #[mv Mk.none, .bool false]) (by simp [results, Tryz.results54, go_sem, mv, Mk.none, c0, c1, c2, c3]) rfl ⟨rfl, ?_⟩
      exact grown_own HG1.out ((((grown_set _ _ _ _).trans (grown_set _ _ _ _)).trans (grown_set _ _ _ _)).trans (grown_set _ _ _ _)) (fun x e => by cases e; exact Nat.le_refl _)
  · have t1 : ¬ (t : Int) < 1 := by omega
    have t4 : ¬ (4 : Int) < (t : Int) := by omega
    have t0 : (0 : Int) ≤ (t : Int) := by omega
    have t5 : (t : Int) < 5 := by omega
    obtain ⟨m, hm⟩ : ∃ m, p.mks[t]? = some m := ⟨_, List.getElem?_eq_getElem (by rw [HR.out.five]; omega)⟩
    have e1 : moM p (t : Int) = m := by unfold moM; rw [if_pos t5, Int.toNat_natCast, List.getD_eq_getElem?_getD, hm]; rfl
    have e2 : moB p (t : Int) = !decide (m.nm = ⟨#[]⟩) := by unfold moB; rw [e1]
    have hd := hD.2 m (List.mem_of_getElem? hm)
    obtain ⟨d0, d1, d2, d3⟩ := HR.out.mark hm
    rw [e1, e2]
    clear e1 e2 hm hD hr ht
    obtain ⟨mi, nm, po, he⟩ := m
    simp only at d0 d1 d2 d3 hd ⊢
    by_cases hq : nm = ⟨#[]⟩
    · have hN : (⟨mi, nm, po, he⟩ : Mk) = Mk.none := by
        rcases hd with h | h
        · exact h
        · exact absurd hq h.2
      rw [decide_eq_true hq, hN]
      unfold Mk.none at hN
      injection hN with h1 h2 h3 h4
      subst h1 h2 h3 h4
      clear hd hq
      go_enter Tryz.func54, Tryz.ntmps54
      go_upto_region 1 with fail
      rw [← hW1]
      clear hW1
      go_wp2_with (first | (go_at_call 108; refine (rnone_any b _ p _ HR.out).mono ?_; rintro e w1 ⟨rfl, h1⟩; obtain rfl : W1 = w1 := h1.symm) | fail)
      refine bodyPost_ret (v := .tuple #[mv Mk.none, .bool false]) (by simp [results, Tryz.results54, go_sem, mv, Mk.none, c0, c1, c2, c3]) rfl ⟨rfl, ?_⟩
      exact grown_own HG1.out ((((grown_set _ _ _ _).trans (grown_set _ _ _ _)).trans (grown_set _ _ _ _)).trans (grown_set _ _ _ _)) (fun x e => by cases e; exact Nat.le_refl _)
    · have hN : ¬ mi = 0 := by
        rcases hd with h | h
        · unfold Mk.none at h
          injection h with h1 h2 h3 h4
          exact absurd h2 hq
        · exact h.1
      have q0 : (mi == 0) = false := by simpa using hN
      rw [decide_eq_false hq]
      clear hd hq hN
      go_enter Tryz.func54, Tryz.ntmps54
      go_upto_region 1 with fail
      rw [← hW1]
      clear hW1
      go_wp2_with (first | (go_at_call 108; refine (rnone_any b _ p _ HR.out).mono ?_; rintro e w1 ⟨rfl, h1⟩; obtain rfl : W1 = w1 := h1.symm) | fail)
      refine bodyPost_ret (v := .tuple #[mv ⟨mi, nm, po, he⟩, .bool true]) (by simp [results, Tryz.results54, go_sem, mv, c0, c1, c2, c3]) rfl ⟨rfl, ?_⟩
      exact grown_own HG1.out ((((grown_set _ _ _ _).trans (grown_set _ _ _ _)).trans (grown_set _ _ _ _)).trans (grown_set _ _ _ _)) (fun x e => by cases e; exact Nat.le_refl _)
end Go.Proofs.YtknlcjhcamhfmaaGreatDoor
