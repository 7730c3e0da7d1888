/-
  The document's own test of a card's name, its bounds, its numbers.
  The document's own book: where it lies, and what its small calls tell.
  The document's own book: Trait, TraitName.
  The document's own book: MarkOf, Mark.
  Things, plainly: features, what marks add, the places of a card's parts of a moment.
  Zones, plainly: things, decks, hands, the next stamp; when they are sound; a thing comes to a place; each call keeps them sound.
-/
import Derived.Test.YtmemeloehgemcaaGreatRChk2
import Derived.Test.YtmemeloehgemcaaGreatV4
import Derived.Test.YtmemeloehgemcaaGreatV10
import Derived.WalkKit
namespace Go.Proofs.YtmemeloehgemcaaGreat
open Go.RowKit

set_option maxHeartbeats 2000000 in
theorem m_rname_any (s : ByteArray) (w : World) : Calls Tryz.prog 123 #[.string s] w fun e w' => e = .returned (.bool (nameOk s.data.toList)) ∧ w' = w := by
  have HL : Hid (s.data.toList.length = s.size) := (Lib.size_eq s).symm
  by_cases h0 : s.size = 0
  · have hb : (s.size : Int) < 1 := by omega
    rw [show s.data.toList = [] from List.eq_nil_of_length_eq_zero (by rw [HL.out]; exact h0)]
    clear h0
    go_enter Tryz.func123, Tryz.ntmps123
    go_wp2
    go_ret
    exact ⟨rfl, rfl⟩
  · have hb : ¬ (s.size : Int) < 1 := by omega
    by_cases h1 : 20 < s.size
    · have hb1 : (20 : Int) < (s.size : Int) := by omega
      rw [name_no_len (by rw [HL.out]; exact h1)]
      clear h0 h1
      go_enter Tryz.func123, Tryz.ntmps123
      go_wp2
      go_ret
      exact ⟨rfl, rfl⟩
    · have hb1 : ¬ (20 : Int) < (s.size : Int) := by omega
      have hp : 0 < s.size := by omega
      have B0 : Hid (s.data.toList[0]? = some s[0]) := byte_at s 0 hp
      have H1 : Hid (s.data.toList.length ≤ 20) := by rw [Hid, HL.out]; omega
      clear h0 h1
      by_cases hc : s[0] = 45
      · have hq : ((s[0].toNat : Int) == 45) = true := by simp [hc]
        rw [name_no_first B0.out (by rw [hc]; rfl)]
        clear hc
        go_enter Tryz.func123, Tryz.ntmps123
        go_wp2
        go_ret
        exact ⟨rfl, rfl⟩
      · have hq : ((s[0].toNat : Int) == 45) = false := by
          have : ¬ (s[0].toNat : Int) = 45 := fun e => hc (UInt8.toNat_inj.1 (by simpa using (by omega : s[0].toNat = 45)))
          simpa using this
        have HC : Hid (¬ s[0] = 45) := hc
        clear hc
        go_enter Tryz.func123, Tryz.ntmps123
        go_wp2
        go_loopw [3] (fun t wr => wr = w ∧ ∃ i : Nat, i ≤ s.size ∧ t = .int .i64 i ∧ ∀ j x, j < i → s.data.toList[j]? = some x → okb x = true) (fun t _ => s.size - (intOf t).toNat)
        case atStart => exact ⟨rfl, 0, Nat.zero_le _, rfl, fun j x hj => absurd hj (by omega)⟩
        case round =>
          obtain ⟨rfl, i, hi, rfl, ha⟩ := hrel
          have HA : Hid (∀ j x, j < i → s.data.toList[j]? = some x → okb x = true) := ha
          clear ha
          by_cases hl : i < s.size
          · have hl' : (i : Int) < (s.size : Int) := by omega
            have BI : Hid (s.data.toList[i]? = some s[i]) := byte_at s i hl
            by_cases a : (s[i].toNat : Int) < 97
            · by_cases hd : s[i] = 45
              · have hq : ((s[i].toNat : Int) != 45) = false := by simp [hd]
                have HN : Hid (okb s[i] = true) := by simp [Hid, okb, hd]
                clear hd
                go_wp2
                go_roundw
                case rel => exact ⟨trivial, i + 1, by omega, by go_num, fun j x hj hx => by
                  rcases (show j < i ∨ j = i from by omega) with h' | rfl
                  · exact HA.out j x h' hx
                  · rw [BI.out] at hx; cases hx; exact HN.out⟩
                case measure => simp [intOf]; omega
              · have hq : ((s[i].toNat : Int) != 45) = true := by
                  have : ¬ (s[i].toNat : Int) = 45 := fun e => hd (UInt8.toNat_inj.1 (by simpa using (by omega : s[i].toNat = 45)))
                  exact bne_no this
                have HN : Hid (okb s[i] = false) := by
                  have : ¬ 97 ≤ s[i].toNat := by omega
                  simp [Hid, okb, letter, this, hd]
                clear hd
                go_wp2
                go_ret
                exact ⟨ret_bool (name_no_at BI.out HN.out).symm, rfl⟩
            · by_cases a' : (122 : Int) < (s[i].toNat : Int)
              · have hd : ¬ s[i] = 45 := by
                  intro h
                  rw [h] at a'
                  exact absurd a' (by decide)
                have hq : ((s[i].toNat : Int) != 45) = true := bne_no (by omega)
                have HN : Hid (okb s[i] = false) := by
                  have : ¬ s[i].toNat ≤ 122 := by omega
                  simp [Hid, okb, letter, this, hd]
                clear hd
                go_wp2
                go_ret
                exact ⟨ret_bool (name_no_at BI.out HN.out).symm, rfl⟩
              · have HN : Hid (okb s[i] = true) := by
                  have h1 : 97 ≤ s[i].toNat := by omega
                  have h2 : s[i].toNat ≤ 122 := by omega
                  simp [Hid, okb, letter, h1, h2]
                go_wp2
                go_roundw
                case rel => exact ⟨trivial, i + 1, by omega, by go_num, fun j x hj hx => by
                  rcases (show j < i ∨ j = i from by omega) with h' | rfl
                  · exact HA.out j x h' hx
                  · rw [BI.out] at hx; cases hx; exact HN.out⟩
                case measure => simp [intOf]; omega
          · have hl' : ¬ (i : Int) < (s.size : Int) := by omega
            have HY : Hid (nameOk s.data.toList = true) := by
              have ALL : ∀ (j : Nat) x, s.data.toList[j]? = some x → okb x = true := fun j x hx => HA.out j x (by
                have := (List.getElem?_eq_some_iff.1 hx).1
                rw [HL.out] at this
                omega) hx
              have L0 : letter s[0] = true := by
                have := ALL 0 _ B0.out
                simpa [okb, HC.out] using this
              exact name_yes B0.out L0 H1.out ALL
            go_wp2
            go_ret
            exact ⟨ret_bool HY.out.symm, rfl⟩

def wB (n a b : Int) : Bool := decide (a ≤ n) && decide (n ≤ b)
theorem r6within_any (n a b : Int) (w : World) : Calls Tryz.prog 124 #[.int .i64 n, .int .i64 a, .int .i64 b] w fun e w' => e = .returned (.bool (wB n a b)) ∧ w' = w := by
  by_cases h : a ≤ n
  · have e : wB n a b = decide (n ≤ b) := by simp [wB, h]
    rw [e]
    clear e
    go_enter Tryz.func124, Tryz.ntmps124
    go_wp2
    go_ret
    exact ⟨rfl, rfl⟩
  · have e : wB n a b = false := by simp [wB, h]
    rw [e]
    clear e
    go_enter Tryz.func124, Tryz.ntmps124
    go_wp2
    go_ret
    exact ⟨rfl, rfl⟩
theorem r4check_any (s : Int) (w : World) : Calls Tryz.prog 125 #[.int .u16 s] w fun e w' => e = .returned (.bool (decide (s < 256))) ∧ w' = w := by
  go_enter Tryz.func125, Tryz.ntmps125
  go_wp2
  go_ret
  exact ⟨rfl, rfl⟩
end Go.Proofs.YtmemeloehgemcaaGreat
namespace Go.Proofs.YtmemeloehgemcaaGreat
open Go.RowKit

set_option maxHeartbeats 2000000 in
theorem r7name_any (s : ByteArray) (w : World) : Calls Tryz.prog 94 #[.string s] w fun e w' => e = .returned (.bool (nameOk s.data.toList)) ∧ w' = w := by
  have HL : Hid (s.data.toList.length = s.size) := (Lib.size_eq s).symm
  by_cases h0 : s.size = 0
  · have hb : (s.size : Int) < 1 := by omega
    rw [show s.data.toList = [] from List.eq_nil_of_length_eq_zero (by rw [HL.out]; exact h0)]
    clear h0
    go_enter Tryz.func94, Tryz.ntmps94
    go_wp2
    go_ret
    exact ⟨rfl, rfl⟩
  · have hb : ¬ (s.size : Int) < 1 := by omega
    by_cases h1 : 20 < s.size
    · have hb1 : (20 : Int) < (s.size : Int) := by omega
      rw [name_no_len (by rw [HL.out]; exact h1)]
      clear h0 h1
      go_enter Tryz.func94, Tryz.ntmps94
      go_wp2
      go_ret
      exact ⟨rfl, rfl⟩
    · have hb1 : ¬ (20 : Int) < (s.size : Int) := by omega
      have hp : 0 < s.size := by omega
      have B0 : Hid (s.data.toList[0]? = some s[0]) := byte_at s 0 hp
      have H1 : Hid (s.data.toList.length ≤ 20) := by rw [Hid, HL.out]; omega
      clear h0 h1
      by_cases hc : (s[0].toNat : Int) < 97
      · rw [name_no_first B0.out (by have : ¬ 97 ≤ s[0].toNat := by omega
                                     simp [letter, this])]
        go_enter Tryz.func94, Tryz.ntmps94
        go_wp2
        go_ret
        exact ⟨rfl, rfl⟩
      by_cases hd : (122 : Int) < (s[0].toNat : Int)
      · rw [name_no_first B0.out (by have : ¬ s[0].toNat ≤ 122 := by omega
                                     simp [letter, this])]
        go_enter Tryz.func94, Tryz.ntmps94
        go_wp2
        go_ret
        exact ⟨rfl, rfl⟩
      · have HC : Hid (letter s[0] = true) := by
          have h1 : 97 ≤ s[0].toNat := by omega
          have h2 : s[0].toNat ≤ 122 := by omega
          simp [Hid, letter, h1, h2]
        go_enter Tryz.func94, Tryz.ntmps94
        go_wp2
        go_loopw [3] (fun t wr => wr = w ∧ ∃ i : Nat, i ≤ s.size ∧ t = .int .i64 i ∧ ∀ j x, j < i → s.data.toList[j]? = some x → okb x = true) (fun t _ => s.size - (intOf t).toNat)
        case atStart => exact ⟨rfl, 0, Nat.zero_le _, rfl, fun j x hj => absurd hj (by omega)⟩
        case round =>
          obtain ⟨rfl, i, hi, rfl, ha⟩ := hrel
          have HA : Hid (∀ j x, j < i → s.data.toList[j]? = some x → okb x = true) := ha
          clear ha
          by_cases hl : i < s.size
          · have hl' : (i : Int) < (s.size : Int) := by omega
            have BI : Hid (s.data.toList[i]? = some s[i]) := byte_at s i hl
            by_cases a : (s[i].toNat : Int) < 97
            · by_cases hd : s[i] = 45
              · have hq : ((s[i].toNat : Int) != 45) = false := by simp [hd]
                have HN : Hid (okb s[i] = true) := by simp [Hid, okb, hd]
                clear hd
                go_wp2
                go_roundw
                case rel => exact ⟨trivial, i + 1, by omega, by go_num, fun j x hj hx => by
                  rcases (show j < i ∨ j = i from by omega) with h' | rfl
                  · exact HA.out j x h' hx
                  · rw [BI.out] at hx; cases hx; exact HN.out⟩
                case measure => simp [intOf]; omega
              · have hq : ((s[i].toNat : Int) != 45) = true := by
                  have : ¬ (s[i].toNat : Int) = 45 := fun e => hd (UInt8.toNat_inj.1 (by simpa using (by omega : s[i].toNat = 45)))
                  exact bne_no this
                have HN : Hid (okb s[i] = false) := by
                  have : ¬ 97 ≤ s[i].toNat := by omega
                  simp [Hid, okb, letter, this, hd]
                clear hd
                go_wp2
                go_ret
                exact ⟨ret_bool (name_no_at BI.out HN.out).symm, rfl⟩
            · by_cases a' : (122 : Int) < (s[i].toNat : Int)
              · have hd : ¬ s[i] = 45 := by
                  intro h
                  rw [h] at a'
                  exact absurd a' (by decide)
                have hq : ((s[i].toNat : Int) != 45) = true := bne_no (by omega)
                have HN : Hid (okb s[i] = false) := by
                  have : ¬ s[i].toNat ≤ 122 := by omega
                  simp [Hid, okb, letter, this, hd]
                clear hd
                go_wp2
                go_ret
                exact ⟨ret_bool (name_no_at BI.out HN.out).symm, rfl⟩
              · have HN : Hid (okb s[i] = true) := by
                  have h1 : 97 ≤ s[i].toNat := by omega
                  have h2 : s[i].toNat ≤ 122 := by omega
                  simp [Hid, okb, letter, h1, h2]
                go_wp2
                go_roundw
                case rel => exact ⟨trivial, i + 1, by omega, by go_num, fun j x hj hx => by
                  rcases (show j < i ∨ j = i from by omega) with h' | rfl
                  · exact HA.out j x h' hx
                  · rw [BI.out] at hx; cases hx; exact HN.out⟩
                case measure => simp [intOf]; omega
          · have hl' : ¬ (i : Int) < (s.size : Int) := by omega
            have HY : Hid (nameOk s.data.toList = true) := by
              have ALL : ∀ (j : Nat) x, s.data.toList[j]? = some x → okb x = true := fun j x hx => HA.out j x (by
                have := (List.getElem?_eq_some_iff.1 hx).1
                rw [HL.out] at this
                omega) hx
              have L0 : letter s[0] = true := HC.out
              exact name_yes B0.out L0 H1.out ALL
            go_wp2
            go_ret
            exact ⟨ret_bool HY.out.symm, rfl⟩

theorem w64s (x : Int) (h0 : 0 ≤ x) (h1 : x < 1000) : wrap64 x = x := by unfold wrap64; omega
/-- The document's book: 32 cells; its list of cards is a slice. -/
def rcells (v : Value) (p : Pl) : List Value := .bool true :: .bool p.shut :: v :: (p.nms.map Value.string ++ mcells p.mks)
structure RJ (w : World) (b : Nat) (v : Value) (p : Pl) : Prop where
  lies : w.heap[b]? = some (.cells (rcells v p).toArray 159 (0, 0))
  nine : p.nms.length = 9
  five : p.mks.length = 5
theorem RJ.keepR {w w' : World} {b : Nat} {v : Value} {p : Pl} {r : Option Nat} (h : RJ w b v p) (g : w.grownBy w' r) (hr : some b ≠ r) : RJ w' b v p := ⟨grown_keep g h.lies hr, h.nine, h.five⟩
theorem RJ.keep {w w' : World} {b : Nat} {v : Value} {p : Pl} (h : RJ w b v p) (g : w.grownBy w' none) : RJ w' b v p := h.keepR g (by simp)
theorem RJ.made {w : World} {b : Nat} {v : Value} {p : Pl} (h : RJ w b v p) : w.cell? ⟨b, 0, none⟩ = some (.bool true) := block_cell h.lies 0
theorem RJ.shut {w : World} {b : Nat} {v : Value} {p : Pl} (h : RJ w b v p) : w.cell? ⟨b, 1, none⟩ = some (.bool p.shut) := block_cell h.lies 1
theorem RJ.list {w : World} {b : Nat} {v : Value} {p : Pl} (h : RJ w b v p) : w.cell? ⟨b, 2, none⟩ = some v := block_cell h.lies 2
theorem RJ.free {w : World} {b : Nat} {v : Value} {p : Pl} (h : RJ w b v p) (i : Nat) : w.frozen? ⟨b, i, none⟩ = false := block_free h.lies i
theorem RJ.name {w : World} {b : Nat} {v : Value} {p : Pl} (h : RJ w b v p) {t : Nat} {s : ByteArray} (ht : p.nms[t]? = some s) : w.cell? ⟨b, 3 + t, none⟩ = some (.string s) := by
  have hl : t < p.nms.length := (List.getElem?_eq_some_iff.1 ht).1
  rw [block_cell h.lies, List.getElem?_toArray]
  unfold rcells
  rw [show 3 + t = t + 1 + 1 + 1 by omega, List.getElem?_cons_succ, List.getElem?_cons_succ, List.getElem?_cons_succ, List.getElem?_append_left (by simpa using hl), List.getElem?_map, ht]
  rfl
theorem RJ.mark {w : World} {b : Nat} {v : Value} {p : Pl} (h : RJ w b v p) {t : Nat} {m : Mk} (ht : p.mks[t]? = some m) : M4 w b (12 + t * 4) m := by
  have at_ : ∀ k u, k < 4 → (mvs m)[k]? = some u → w.cell? ⟨b, 12 + t * 4 + k, none⟩ = some u := fun k u hk hu => by
    rw [block_cell h.lies, List.getElem?_toArray]
    unfold rcells
    rw [show 12 + t * 4 + k = 9 + (t * 4 + k) + 1 + 1 + 1 by omega, List.getElem?_cons_succ, List.getElem?_cons_succ, List.getElem?_cons_succ, List.getElem?_append_right (by simp [h.nine]), List.length_map, h.nine, show 9 + (t * 4 + k) - 9 = t * 4 + k by omega, mcells_at _ _ _ ht k hk]
    exact hu
  exact ⟨at_ 0 _ (by omega) rfl, at_ 1 _ (by omega) rfl, at_ 2 _ (by omega) rfl, at_ 3 _ (by omega) rfl⟩
/-- Where the list of cards lies. -/
def RL (w : World) (v : Value) (fs : List Ent) : Prop := (v = .slice none 0 0 ∧ fs = []) ∨ ∃ g cap, v = .slice (some ⟨g, 0, none⟩) fs.length cap ∧ EsAt w g 0 fs
theorem RL.keep {w w' : World} {v : Value} {fs : List Ent} (h : RL w v fs) (g : w.grownBy w' none) : RL w' v fs := by
  rcases h with h | ⟨x, c, e, k⟩
  · exact Or.inl h
  · exact Or.inr ⟨x, c, e, k.keep g⟩
theorem C9.keepR {w w' : World} {g o : Nat} {h : Hd} {v : Value} {r : Option Nat} (k : C9 w g o h v) (hg : w.grownBy w' r) (hr : some g ≠ r) : C9 w' g o h v :=
  ⟨hg.cell k.c0 hr, hg.cell k.c1 hr, hg.cell k.c2 hr, hg.cell k.c3 hr, hg.cell k.c4 hr, hg.cell k.c5 hr, hg.cell k.c6 hr, hg.cell k.c7 hr, hg.cell k.c8 hr⟩
theorem RL.keepR {w w' : World} {v : Value} {fs : List Ent} {r : Option Nat} (h : RL w v fs) (g : w.grownBy w' r) (hr : ∀ k, v.ownBlock = some k → some k ≠ r) : RL w' v fs := by
  rcases h with h | ⟨x, c, rfl, k⟩
  · exact Or.inl h
  · exact Or.inr ⟨x, c, rfl, fun j e he => (k j e he).keepR g (hr x rfl)⟩
theorem RL.form {w : World} {v : Value} {fs : List Ent} (h : RL w v fs) : ∃ a c, v = .slice a fs.length c := by
  rcases h with ⟨rfl, rfl⟩ | ⟨x, c, rfl, _⟩
  · exact ⟨_, _, rfl⟩
  · exact ⟨_, _, rfl⟩
theorem RL.row {w : World} {v : Value} {fs : List Ent} (h : RL w v fs) (h0 : 0 < fs.length) : ∃ g c, v = .slice (some ⟨g, 0, none⟩) fs.length c ∧ ∀ (j : Nat) e, fs[j]? = some e → C9 w g (j * 9) e.h e.v := by
  rcases h with ⟨rfl, rfl⟩ | ⟨x, c, rfl, k⟩
  · simp at h0
  · exact ⟨x, c, rfl, fun j e he => by have := k j e he; rw [Nat.zero_add] at this; exact this⟩
def rbA : Array Value := (rcells (.slice none 0 0) plNew).toArray
theorem run_buildRb (w : World) : (Instr.build 159 #[(0, .bool true)]).run Tryz.prog w = .ok (.agg rbA) w := by kernel_rfl
theorem run_boxRb (cs : Array Value) (w : World) : (Instr.box 159 (.agg cs)).run Tryz.prog w = .ok (.pointer (some ⟨w.heap.size, 0, none⟩)) (w.alloc (.cells cs 159)) := rfl
set_option maxRecDepth 100000 in
theorem rnew_any (w : World) : Calls Tryz.prog 40 #[] w fun e w' => e = .returned (.pointer (some ⟨w.heap.size, 0, none⟩)) ∧ RJ w' w.heap.size (.slice none 0 0) plNew ∧ w.grownBy w' none ∧ w'.heap.size = w.heap.size + 1 := by
  go_enter Tryz.func40, Tryz.ntmps40
  go_wp2_with (first | (refine wpl_build ?g 159 #[(0, .const (.bool true))] ?ho #[(0, .bool true)] ?hv (.agg rbA) (run_buildRb _) ?_; (case g => rfl); (case ho => rfl); (case hv => simp [Act.eval])) | (refine wpl_box ?g 159 (.tmp 1) ?ho (.agg rbA) ?hv _ (run_boxRb rbA _) ?_; (case g => rfl); (case ho => rfl); (case hv => simp [Act.eval])) | fail)
  go_ret
  refine ⟨rfl, ⟨?_, rfl, rfl⟩, World.grownBy_alloc w _ none, by simp⟩
  exact alloc_at w rbA 159
set_option maxHeartbeats 1000000 in
theorem rnone_any (b : Nat) (v : Value) (p : Pl) (w : World) (R : RJ w b v p) : Calls Tryz.prog 85 #[.pointer (some ⟨b, 0, none⟩)] w fun e w' => e = .returned (.bool false) ∧ w' = w := by
  have c := R.made
  clear R
  go_enter Tryz.func85, Tryz.ntmps85
  go_wp2
  go_ret
  exact ⟨rfl, rfl⟩
set_option maxHeartbeats 1000000 in
theorem rsealed_any (b : Nat) (v : Value) (p : Pl) (w : World) (R : RJ w b v p) : Calls Tryz.prog 49 #[.pointer (some ⟨b, 0, none⟩)] w fun e w' => e = .returned (.bool p.shut) ∧ w' = w := by
  have HR : Hid (RJ w b v p) := R
  have c := R.shut
  clear R
  go_enter Tryz.func49, Tryz.ntmps49
  go_wp2_with fail
  refine (rnone_any b v p w HR.out).mono ?_
  rintro e w1 ⟨rfl, h1⟩
  obtain rfl : w = w1 := h1.symm
  go_wp2
  go_ret
  exact ⟨rfl, rfl⟩
set_option maxRecDepth 100000 in
set_option maxHeartbeats 2000000 in
theorem rplace_any (b : Nat) (v : Value) (p : Pl) (fs : List Ent) (s : ByteArray) (w : World) (R : RJ w b v p) (L : RL w v fs) (hl : fs.length ≤ 64) : Calls Tryz.prog 87 #[.pointer (some ⟨b, 0, none⟩), .string s] w fun e w' => e = .returned (.int .i64 (pos (names fs) s)) ∧ w' = w := by
  have c := R.list
  have HL : Hid (RL w v fs) := L
  obtain ⟨a, k, rfl⟩ := L.form
  have hsm : Small fs.length := by unfold Small; omega
  clear R L
  go_enter Tryz.func87, Tryz.ntmps87
  go_wp2_with fail
  go_loopw [5] (fun x5 wr => wr = w ∧ ∃ i : Nat, i ≤ fs.length ∧ x5 = .int .i64 (i : Int) ∧ NoneTo fs s i) (fun x5 _ => fs.length - (intOf x5).toNat)
  case atStart => exact ⟨rfl, 0, Nat.zero_le _, rfl, fun j e hj => absurd hj (by omega)⟩
  case round =>
    obtain ⟨rfl, i, hi, rfl, hN⟩ := hrel
    have HN : Hid (NoneTo fs s i) := hN
    clear hN
    rcases (show i < fs.length ∨ i = fs.length from by omega) with hil | hie
    · have i0 : (0 : Int) ≤ (i : Int) := by omega
      have i1 : (i : Int) < (fs.length : Int) := by omega
      obtain ⟨g, cap, ev, hrow⟩ := HL.out.row (by omega)
      injection ev with e1 _ e3
      subst e1
      subst e3
      obtain ⟨e, he⟩ : ∃ e, fs[i]? = some e := ⟨_, List.getElem?_eq_getElem hil⟩
      have c0 := (hrow i e he).c0
      by_cases hs : e.h.nm = s
      · have hq := bytes_yes hs
        have HP : Hid (pos (names fs) s = (i : Int)) := noneTo_hit HN.out he hs
        clear hrow he hs hi
        go_wp2
        go_ret
        exact ⟨ret_int HP.out.symm, rfl⟩
      · have hq := bytes_no hs
        have HN2 : Hid (NoneTo fs s (i + 1)) := noneTo_next HN.out he hs
        clear hrow he hs hi
        go_wp2_with fail
        go_roundw
        case rel => exact ⟨by first | rfl | trivial, i + 1, hil, by first | rfl | (rw [hsm.wrap hil]; rfl), HN2.out⟩
        case measure => first | exact meas_next hil | (rw [hsm.wrap hil]; exact meas_next hil)
    · have i1 : ¬ (i : Int) < (fs.length : Int) := by omega
      have HP : Hid (pos (names fs) s = -1) := noneTo_end (by rw [← hie]; exact HN.out)
      clear hie hi
      go_wp2
      go_ret
      exact ⟨ret_int HP.out.symm, rfl⟩
end Go.Proofs.YtmemeloehgemcaaGreat
namespace Go.Proofs.YtmemeloehgemcaaGreat
open Go.RowKit

theorem RJ.setN {w : World} {b : Nat} {v : Value} {p : Pl} (h : RJ w b v p) {t : Nat} (ht : t < 9) (s : ByteArray) : RJ (w.setCell ⟨b, 3 + t, none⟩ (.string s)) b v { p with nms := p.nms.set t s } := by
  refine ⟨?_, by simpa using h.nine, h.five⟩
  rw [block_set h.lies]
  congr 2
  rw [List.setIfInBounds_toArray]
  congr 1
  unfold rcells
  rw [show 3 + t = t + 1 + 1 + 1 by omega]
  simp only [List.set_cons_succ]
  rw [List.set_append_left _ _ (by simp [h.nine]; omega), List.map_set]
/-- No name of these is the name, and that of the trait is free. -/
def NoT (p : Pl) (t : Nat) (s : ByteArray) (i : Nat) : Prop := ∀ (j : Nat) x, 1 ≤ j → j < i → p.nms[j]? = some x → ¬ x = s ∧ (j = t → x = ⟨#[]⟩)
theorem empty_name : nameOk (ByteArray.mk #[]).data.toList = false := rfl
theorem trE_hit {p : Pl} {t i : Nat} {s x : ByteArray} (hs : p.shut = false) (h1 : 1 ≤ t) (h8 : t ≤ 8) (hn : nameOk s.data.toList = true) (hx : p.nms[i]? = some x) (h : x = s ∨ (i = t ∧ ¬ x = ⟨#[]⟩)) : trE p (t : Int) s = 5 := by
  unfold trE
  rw [if_neg (by simp [hs]), if_neg (by omega), if_neg (by simp [hn]), if_pos ?_]
  rcases h with rfl | ⟨rfl, h⟩
  · right
    apply Classical.byContradiction
    intro hc
    exact pos_no (Int.not_le.1 hc) (List.mem_of_getElem? hx)
  · left
    rw [Int.toNat_natCast, List.getD_eq_getElem?_getD, hx]
    exact h
theorem trE_free {p : Pl} {t : Nat} {s : ByteArray} (hs : p.shut = false) (h1 : 1 ≤ t) (h8 : t ≤ 8) (hn : nameOk s.data.toList = true) (h9 : p.nms.length = 9) (hz : p.nms[0]? = some ⟨#[]⟩) (h : NoT p t s 9) : trE p (t : Int) s = 0 := by
  unfold trE
  rw [if_neg (by simp [hs]), if_neg (by omega), if_neg (by simp [hn]), if_neg ?_]
  rintro (h2 | h2)
  · obtain ⟨x, hx⟩ : ∃ x, p.nms[t]? = some x := ⟨_, List.getElem?_eq_getElem (by omega)⟩
    rw [Int.toNat_natCast, List.getD_eq_getElem?_getD, hx] at h2
    exact h2 ((h t x h1 (by omega) hx).2 rfl)
  · have hm := pos_yes _ _ h2
    have hl := (List.getElem?_eq_some_iff.1 hm).1
    by_cases h0 : (pos p.nms s).toNat = 0
    · rw [h0, hz] at hm
      obtain rfl := Option.some.inj hm
      rw [empty_name] at hn
      cases hn
    · exact (h _ s (by omega) (by omega) hm).1 rfl
theorem NoT.next {p : Pl} {t i : Nat} {s x : ByteArray} (h : NoT p t s i) (hx : p.nms[i]? = some x) (h1 : ¬ x = s) (h2 : i = t → x = ⟨#[]⟩) : NoT p t s (i + 1) := fun j y hj1 hj hy => by
  rcases (show j < i ∨ j = i from by omega) with hji | rfl
  · exact h j y hj1 hji hy
  · rw [hx] at hy
    obtain rfl := Option.some.inj hy
    exact ⟨h1, h2⟩
end Go.Proofs.YtmemeloehgemcaaGreat
namespace Go.Proofs.YtmemeloehgemcaaGreat
open Go.RowKit

/-- What is marked is marked whole. -/
def MkD (p : Pl) : Prop := p.mks[0]? = some Mk.none ∧ ∀ m ∈ p.mks, m = Mk.none ∨ (¬ m.mi = 0 ∧ ¬ m.nm = ⟨#[]⟩)
end Go.Proofs.YtmemeloehgemcaaGreat
namespace Go.Proofs.YtmemeloehgemcaaGreat
open Go.RowKit

/-- Features. -/
structure Fe where
  ho : Int
  su : Int
  tr : Int
  po : Int
  he : Int
def Fe.none : Fe := ⟨0, 0, 0, 0, 0⟩
def fev (f : Fe) : Value := .agg #[.int .i64 f.ho, .int .u8 f.su, .int .u16 f.tr, .int .i64 f.po, .int .i64 f.he]
def fcs (f : Fe) : Array Value := #[.int .i64 f.ho, .int .u8 f.su, .int .u16 f.tr, .int .i64 f.po, .int .i64 f.he]
/-- A number that an int holds. -/
def InI (a : Int) : Prop := -9223372036854775808 ≤ a ∧ a ≤ 9223372036854775807
theorem inI_wrap (a : Int) : InI (wrap64 a) := by unfold InI wrap64; omega
theorem wrap_in {a : Int} (h : InI a) : wrap64 a = a := by unfold InI at h; unfold wrap64; omega
theorem wrap_addR (a b : Int) : wrap64 (a + wrap64 b) = wrap64 (a + b) := by unfold wrap64; omega
theorem wrap_addL (a b : Int) : wrap64 (wrap64 a + b) = wrap64 (a + b) := by unfold wrap64; omega
/-- So many of one mark added. -/
def adw (a c m : Int) : Int := wrap64 (a + wrap64 (c * m))
theorem adw_eq (a c m : Int) : adw a c m = wrap64 (a + c * m) := wrap_addR _ _
theorem adw_zero {a : Int} (c : Int) (h : InI a) : adw a c 0 = a := by rw [adw_eq, Int.mul_zero, Int.add_zero, wrap_in h]
def addP (a : Int) (l : List (Int × Mk)) : Int := l.foldl (fun a x => adw a x.1 x.2.po) a
def addH (a : Int) (l : List (Int × Mk)) : Int := l.foldl (fun a x => adw a x.1 x.2.he) a
theorem addP_snoc (a : Int) (l : List (Int × Mk)) (x : Int × Mk) : addP a (l ++ [x]) = adw (addP a l) x.1 x.2.po := by unfold addP; rw [List.foldl_append]; rfl
theorem addH_snoc (a : Int) (l : List (Int × Mk)) (x : Int × Mk) : addH a (l ++ [x]) = adw (addH a l) x.1 x.2.he := by unfold addH; rw [List.foldl_append]; rfl
theorem addP_in {a : Int} (h : InI a) : ∀ l : List (Int × Mk), InI (addP a l)
  | [] => h
  | x :: l => addP_in (a := adw a x.1 x.2.po) (inI_wrap _) l
theorem addH_in {a : Int} (h : InI a) : ∀ l : List (Int × Mk), InI (addH a l)
  | [] => h
  | x :: l => addH_in (a := adw a x.1 x.2.he) (inI_wrap _) l
/-- How many there are of each mark, and what one of it adds. -/
def zs (p : Pl) (c0 c1 c2 c3 : Int) : List (Int × Mk) := [(c0, moM p 1), (c1, moM p 2), (c2, moM p 3), (c3, moM p 4)]
def low0 (a : Int) : Int := if a < 0 then 0 else a
/-- What Marked tells. -/
def mkdF (p : Pl) (f : Fe) (c0 c1 c2 c3 : Int) : Fe := ⟨f.ho, f.su, f.tr, low0 (addP f.po (zs p c0 c1 c2 c3)), addH f.he (zs p c0 c1 c2 c3)⟩
def okC (c : Int) : Prop := 0 ≤ c ∧ c ≤ 99
def okCs (c0 c1 c2 c3 : Int) : Prop := okC c0 ∧ okC c1 ∧ okC c2 ∧ okC c3
/-- A mark that the book has not adds nothing. -/
theorem moM_no {p : Pl} (hD : MkD p) {t : Int} (h : moB p t = false) : (moM p t).po = 0 ∧ (moM p t).he = 0 := by
  have hn : (moM p t).nm = ⟨#[]⟩ := by unfold moB at h; simpa using h
  have hm : moM p t = Mk.none ∨ moM p t ∈ p.mks := by
    unfold moM
    split
    · rw [List.getD_eq_getElem?_getD]
      cases hk : p.mks[t.toNat]? with
      | none => exact Or.inl rfl
      | some m => exact Or.inr (List.mem_of_getElem? hk)
    · exact Or.inl rfl
  rcases hm with hm | hm
  · rw [hm]; exact ⟨rfl, rfl⟩
  · rcases hD.2 _ hm with h1 | h1
    · rw [h1]; exact ⟨rfl, rfl⟩
    · exact absurd hn h1.2
/-- The sum, in one. -/
theorem addP_zs (p : Pl) (a c0 c1 c2 c3 : Int) : addP a (zs p c0 c1 c2 c3) = wrap64 (a + (c0 * (moM p 1).po + c1 * (moM p 2).po + c2 * (moM p 3).po + c3 * (moM p 4).po)) := by
  show adw (adw (adw (adw a c0 _) c1 _) c2 _) c3 _ = _
  rw [adw_eq, adw_eq, adw_eq, adw_eq, wrap_addL, Int.add_assoc, wrap_addL, Int.add_assoc, wrap_addL]
  congr 1
  simp only
  omega
theorem addH_zs (p : Pl) (a c0 c1 c2 c3 : Int) : addH a (zs p c0 c1 c2 c3) = wrap64 (a + (c0 * (moM p 1).he + c1 * (moM p 2).he + c2 * (moM p 3).he + c3 * (moM p 4).he)) := by
  show adw (adw (adw (adw a c0 _) c1 _) c2 _) c3 _ = _
  rw [adw_eq, adw_eq, adw_eq, adw_eq, wrap_addL, Int.add_assoc, wrap_addL, Int.add_assoc, wrap_addL]
  congr 1
  simp only
  omega
theorem addP_both (p : Pl) (a c0 c1 c2 c3 d0 d1 d2 d3 : Int) : addP (addP a (zs p c0 c1 c2 c3)) (zs p d0 d1 d2 d3) = addP a (zs p (c0 + d0) (c1 + d1) (c2 + d2) (c3 + d3)) := by
  rw [addP_zs, addP_zs, addP_zs, wrap_addL]
  congr 1
  rw [Int.add_mul, Int.add_mul, Int.add_mul, Int.add_mul]
  omega
theorem addH_both (p : Pl) (a c0 c1 c2 c3 d0 d1 d2 d3 : Int) : addH (addH a (zs p c0 c1 c2 c3)) (zs p d0 d1 d2 d3) = addH a (zs p (c0 + d0) (c1 + d1) (c2 + d2) (c3 + d3)) := by
  rw [addH_zs, addH_zs, addH_zs, wrap_addL]
  congr 1
  rw [Int.add_mul, Int.add_mul, Int.add_mul, Int.add_mul]
  omega
theorem addP_none {a : Int} (h : InI a) (p : Pl) : addP a (zs p 0 0 0 0) = a := by
  rw [addP_zs, Int.zero_mul, Int.zero_mul, Int.zero_mul, Int.zero_mul]
  simpa using wrap_in h
theorem addH_none {a : Int} (h : InI a) (p : Pl) : addH a (zs p 0 0 0 0) = a := by
  rw [addH_zs, Int.zero_mul, Int.zero_mul, Int.zero_mul, Int.zero_mul]
  simpa using wrap_in h
/-- Marks add up. -/
theorem mkd_both (p : Pl) (f : Fe) (c0 c1 c2 c3 d0 d1 d2 d3 : Int) (h : 0 ≤ addP f.po (zs p c0 c1 c2 c3)) : mkdF p (mkdF p f c0 c1 c2 c3) d0 d1 d2 d3 = mkdF p f (c0 + d0) (c1 + d1) (c2 + d2) (c3 + d3) := by
  have e : low0 (addP f.po (zs p c0 c1 c2 c3)) = addP f.po (zs p c0 c1 c2 c3) := by unfold low0; rw [if_neg (by omega)]
  unfold mkdF
  simp only
  rw [e, addP_both, addH_both]
/-- The card of a number, and the fault. -/
def atC (p : Pl) (es : List Ent) (n : Int) : Hd × List Pt := if p.shut = true ∧ 1 ≤ n then (match es[(n - 1).toNat]? with | some e => (e.h, e.ps) | none => (Hd.none, [])) else (Hd.none, [])
def atX (p : Pl) (es : List Ent) (n : Int) : Int := if p.shut = true ∧ 1 ≤ n ∧ n ≤ (es.length : Int) then 0 else 6
/-- The places of a card's parts of a moment, from k on. -/
def plF : List Pt → Nat → Int → List Int
  | [], _, _ => []
  | q :: r, k, w => if q.wn = w then (k : Int) :: plF r (k + 1) w else plF r (k + 1) w
end Go.Proofs.YtmemeloehgemcaaGreat
namespace Go.Proofs.YtmemeloehgemcaaGreat

/-- A thing. -/
structure Th where
  card : Int
  owner : Int
  place : Int
  stamp : Int
  hurt : Int
  m0 : Int
  m1 : Int
  m2 : Int
  m3 : Int
  done : Int
  fresh : Bool

/-- A thing at home, in a place. -/
def Th.home (t : Th) (tp : Int) : Th := ⟨t.card, t.owner, tp, 0, 0, 0, 0, 0, 0, 0, false⟩
/-- A thing that has come to the table. -/
def Th.tabled (t : Th) (nx : Int) : Th := ⟨t.card, t.owner, 4, nx, 0, 0, 0, 0, 0, 0, true⟩
def Th.off (t : Th) : Prop := t = t.home t.place
def Th.marked (t : Th) : Prop := (0 ≤ t.m0 ∧ t.m0 ≤ 99) ∧ (0 ≤ t.m1 ∧ t.m1 ≤ 99) ∧ (0 ≤ t.m2 ∧ t.m2 ≤ 99) ∧ (0 ≤ t.m3 ∧ t.m3 ≤ 99)
/-- May a thing be, by itself? -/
def Th.alone (t : Th) (nx : Int) : Prop := 1 ≤ t.card ∧ (t.owner = 0 ∨ t.owner = 1) ∧ (1 ≤ t.place ∧ t.place ≤ 5) ∧ (t.place ≠ 4 → t.off) ∧ (t.place = 4 → 1 ≤ t.stamp ∧ t.stamp < nx ∧ 0 ≤ t.hurt ∧ 0 ≤ t.done ∧ t.marked)
def Th.none : Th := ⟨0, 0, 0, 0, 0, 0, 0, 0, 0, 0, false⟩
def thAt (ts : List Th) (n : Int) : Th := ts.getD (n - 1).toNat Th.none
/-- Is there a thing of that number? -/
def there (ts : List Th) (n : Int) : Prop := 1 ≤ n ∧ n ≤ (ts.length : Int)
/-- Is n an owner's thing in a place? -/
def inn (ts : List Th) (p pl n : Int) : Prop := there ts n ∧ (thAt ts n).owner = p ∧ (thAt ts n).place = pl
def Holds (ts : List Th) (l : List Int) (p pl : Int) : Prop := l.Nodup ∧ ∀ n, n ∈ l ↔ inn ts p pl n
def onTab (p : Int) (t : Th) : Bool := decide (t.owner = p) && decide (t.place = 4)
def owned (ts : List Th) (p : Int) : Nat := ts.countP (onTab p)
structure Zs where
  ts : List Th
  dk : Int → List Int
  hd : Int → List Int
  nx : Int
structure Zs.Sound (z : Zs) : Prop where
  few : z.ts.length ≤ 2048
  nx1 : 1 ≤ z.nx
  nx2 : z.nx ≤ 1099511627776
  each : ∀ t ∈ z.ts, t.alone z.nx
  tab : ∀ p, p = 0 ∨ p = 1 → owned z.ts p ≤ 8
  hand : ∀ p, p = 0 ∨ p = 1 → (z.hd p).length ≤ 10
  dks : ∀ p, p = 0 ∨ p = 1 → Holds z.ts (z.dk p) p 1
  hds : ∀ p, p = 0 ∨ p = 1 → Holds z.ts (z.hd p) p 2
  stamps : ∀ n m, there z.ts n → there z.ts m → (thAt z.ts n).place = 4 → (thAt z.ts m).place = 4 → (thAt z.ts n).stamp = (thAt z.ts m).stamp → n = m

theorem there_at {ts : List Th} {n : Int} (h : there ts n) : ts[(n - 1).toNat]? = some (thAt ts n) := by
  have : (n - 1).toNat < ts.length := by unfold there at h; omega
  unfold thAt
  rw [List.getD_eq_getElem?_getD, List.getElem?_eq_getElem this]
  rfl
theorem there_mem {ts : List Th} {n : Int} (h : there ts n) : thAt ts n ∈ ts := List.mem_of_getElem? (there_at h)
theorem there_set {ts : List Th} {n : Int} (i : Nat) (t : Th) : there (ts.set i t) n ↔ there ts n := by unfold there; rw [List.length_set]
theorem thAt_set {ts : List Th} {n m : Int} (hn : there ts n) (hm : there ts m) (t : Th) : thAt (ts.set (n - 1).toNat t) m = if m = n then t else thAt ts m := by
  have h1 : (n - 1).toNat < ts.length := by unfold there at hn; omega
  unfold thAt
  rw [List.getD_eq_getElem?_getD, List.getElem?_set]
  unfold there at hn hm
  by_cases e : m = n
  · subst e
    rw [if_pos rfl, if_pos h1, if_pos rfl]
    rfl
  · rw [if_neg (by omega), if_neg e, List.getD_eq_getElem?_getD]
theorem alone_mono {t : Th} {a b : Int} (h : t.alone a) (hab : a ≤ b) : t.alone b := ⟨h.1, h.2.1, h.2.2.1, h.2.2.2.1, fun q => by
  obtain ⟨q1, q2, q3⟩ := h.2.2.2.2 q
  exact ⟨q1, by omega, q3⟩⟩
theorem alone_home {t : Th} {nx tp : Int} (h : t.alone nx) (h1 : 1 ≤ tp) (h2 : tp ≤ 5) (h4 : tp ≠ 4) : (t.home tp).alone nx := ⟨h.1, h.2.1, ⟨h1, h2⟩, fun _ => rfl, fun q => absurd q h4⟩
theorem alone_tabled {t : Th} {nx : Int} (h : t.alone nx) (hn : 1 ≤ nx) : (t.tabled nx).alone (nx + 1) := ⟨h.1, h.2.1, ⟨by show (1 : Int) ≤ 4; decide, by show (4 : Int) ≤ 5; decide⟩, fun q => absurd rfl q, fun _ => ⟨hn, by show nx < nx + 1; omega, Int.le_refl _, Int.le_refl _, ⟨⟨Int.le_refl _, by show (0 : Int) ≤ 99; decide⟩, ⟨Int.le_refl _, by show (0 : Int) ≤ 99; decide⟩, ⟨Int.le_refl _, by show (0 : Int) ≤ 99; decide⟩, ⟨Int.le_refl _, by show (0 : Int) ≤ 99; decide⟩⟩⟩⟩
theorem cntP_set {α : Type} (P : α → Bool) : ∀ (l : List α) (i : Nat) (y x : α), l[i]? = some y → (l.set i x).countP P + (if P y = true then 1 else 0) = l.countP P + (if P x = true then 1 else 0)
  | [], i, y, x, h => by simp at h
  | z :: l, 0, y, x, h => by
    simp at h
    subst h
    rw [List.set_cons_zero, List.countP_cons, List.countP_cons]
    omega
  | z :: l, i + 1, y, x, h => by
    have := cntP_set P l i y x (by simpa using h)
    rw [List.set_cons_succ, List.countP_cons, List.countP_cons]
    omega
theorem owned_set {ts : List Th} {n : Int} (hn : there ts n) (t : Th) (p : Int) : owned (ts.set (n - 1).toNat t) p + (if onTab p (thAt ts n) = true then 1 else 0) = owned ts p + (if onTab p t = true then 1 else 0) := cntP_set _ _ _ _ _ (there_at hn)
/-- A thing comes to a place. -/
def Zs.come (z : Zs) (n tp : Int) : Zs where
  ts := z.ts.set (n - 1).toNat (if tp = 4 then (thAt z.ts n).tabled z.nx else (thAt z.ts n).home tp)
  dk := fun p => if p = (thAt z.ts n).owner then (z.dk p).filter (· != n) ++ (if tp = 1 then [n] else []) else z.dk p
  hd := fun p => if p = (thAt z.ts n).owner then (z.hd p).filter (· != n) ++ (if tp = 2 then [n] else []) else z.hd p
  nx := if tp = 4 then z.nx + 1 else z.nx
/-- What it is then. -/
def Zs.coming (z : Zs) (n tp : Int) : Th := if tp = 4 then (thAt z.ts n).tabled z.nx else (thAt z.ts n).home tp
theorem coming_owner (z : Zs) (n tp : Int) : (z.coming n tp).owner = (thAt z.ts n).owner := by unfold Zs.coming; split <;> rfl
theorem coming_place (z : Zs) (n tp : Int) : (z.coming n tp).place = tp := by
  unfold Zs.coming
  split
  · next h => exact h.symm
  · rfl
theorem come_at {z : Zs} {n m : Int} (tp : Int) (hn : there z.ts n) (hm : there z.ts m) : thAt (z.come n tp).ts m = if m = n then z.coming n tp else thAt z.ts m := thAt_set hn hm _
theorem come_there {z : Zs} {n m tp : Int} : there (z.come n tp).ts m ↔ there z.ts m := there_set _ _
theorem inn_come {z : Zs} {n tp : Int} (hn : there z.ts n) (p pl m : Int) : inn (z.come n tp).ts p pl m ↔ there z.ts m ∧ (if m = n then (thAt z.ts n).owner = p ∧ tp = pl else (thAt z.ts m).owner = p ∧ (thAt z.ts m).place = pl) := by
  unfold inn
  rw [come_there]
  constructor
  · rintro ⟨h1, h2, h3⟩
    rw [come_at tp hn h1] at h2 h3
    refine ⟨h1, ?_⟩
    split
    · next e => rw [if_pos e] at h2 h3; rw [coming_owner] at h2; rw [coming_place] at h3; exact ⟨h2, h3⟩
    · next e => rw [if_neg e] at h2 h3; exact ⟨h2, h3⟩
  · rintro ⟨h1, h2⟩
    rw [come_at tp hn h1]
    refine ⟨h1, ?_⟩
    split
    · next e => rw [if_pos e] at h2; rw [coming_owner, coming_place]; exact h2
    · next e => rw [if_neg e] at h2; exact h2
theorem holds_come {z : Zs} {n tp : Int} (hn : there z.ts n) (p pl : Int) (l : List Int) (h : Holds z.ts l p pl) : Holds (z.come n tp).ts (if p = (thAt z.ts n).owner then l.filter (· != n) ++ (if tp = pl then [n] else []) else l) p pl := by
  by_cases hp : p = (thAt z.ts n).owner
  · rw [if_pos hp]
    constructor
    · refine List.nodup_append.2 ⟨h.1.filter _, by split <;> simp, ?_⟩
      intro a ha b hb
      split at hb
      · simp at hb ha
        omega
      · simp at hb
    · intro m
      rw [inn_come hn, List.mem_append, List.mem_filter, h.2]
      by_cases e : m = n
      · subst e
        rw [if_pos rfl]
        by_cases e2 : tp = pl
        · simp [e2, hn, hp]
        · simp [e2]
      · rw [if_neg e]
        unfold inn
        have : ¬ m ∈ (if tp = pl then [n] else []) := by split <;> simp [e]
        simp [this, e]
  · rw [if_neg hp]
    refine ⟨h.1, fun m => ?_⟩
    rw [inn_come hn, h.2]
    unfold inn
    by_cases e : m = n
    · subst e
      rw [if_pos rfl]
      constructor
      · rintro ⟨_, h1, _⟩
        exact absurd h1.symm hp
      · rintro ⟨_, h1, _⟩
        exact absurd h1.symm hp
    · rw [if_neg e]
theorem filter_lt {l : List Int} {n : Int} (h : n ∈ l) : (l.filter (· != n)).length < l.length := by
  refine Nat.lt_of_le_of_ne (List.length_filter_le _ _) (fun e => ?_)
  have := (List.length_filter_eq_length_iff.1 e) n h
  simp at this
theorem onTab_iff {p : Int} {t : Th} : onTab p t = true ↔ t.owner = p ∧ t.place = 4 := by unfold onTab; simp
/-- What lets a thing come to a place. -/
structure Zs.May (z : Zs) (n tp : Int) : Prop where
  at_ : there z.ts n
  lo : 1 ≤ tp
  hi : tp ≤ 5
  hand : tp = 2 → (thAt z.ts n).place ≠ 2 → (z.hd (thAt z.ts n).owner).length < 10
  tab : tp = 4 → (thAt z.ts n).place ≠ 4 → owned z.ts (thAt z.ts n).owner < 8
  nx : tp = 4 → z.nx < 1099511627776
theorem Zs.Sound.own {z : Zs} (S : z.Sound) {n : Int} (h : there z.ts n) : (thAt z.ts n).owner = 0 ∨ (thAt z.ts n).owner = 1 := (S.each _ (there_mem h)).2.1
theorem Zs.Sound.come {z : Zs} (S : z.Sound) {n tp : Int} (M : z.May n tp) : (z.come n tp).Sound := by
  have hn := M.at_
  have A := S.each _ (there_mem hn)
  have hown := S.own hn
  constructor
  · show (z.ts.set _ _).length ≤ _
    rw [List.length_set]
    exact S.few
  · show 1 ≤ (if tp = 4 then z.nx + 1 else z.nx)
    have := S.nx1
    split <;> omega
  · show (if tp = 4 then z.nx + 1 else z.nx) ≤ _
    have h1 := S.nx2
    split
    · next e => have := M.nx e; omega
    · exact h1
  · intro t ht
    show t.alone (if tp = 4 then z.nx + 1 else z.nx)
    rcases List.mem_or_eq_of_mem_set ht with h | h
    · refine alone_mono (S.each t h) ?_
      split <;> omega
    · rw [h]
      split
      · exact alone_tabled A S.nx1
      · next e => exact alone_home A M.lo M.hi e
  · intro p hp
    have e := owned_set hn (z.coming n tp) p
    have h8 := S.tab p hp
    show owned (z.ts.set _ (z.coming n tp)) p ≤ 8
    by_cases h4 : tp = 4
    · by_cases ho : (thAt z.ts n).owner = p
      · by_cases hq : (thAt z.ts n).place = 4
        · rw [if_pos (onTab_iff.2 ⟨ho, hq⟩)] at e
          split at e <;> omega
        · have := M.tab h4 hq
          rw [ho] at this
          split at e <;> split at e <;> omega
      · rw [if_neg (c := onTab p (z.coming n tp) = true) (fun q => ho (by rw [← coming_owner z n tp]; exact (onTab_iff.1 q).1))] at e
        omega
    · rw [if_neg (c := onTab p (z.coming n tp) = true) (fun q => h4 (by rw [← coming_place z n tp]; exact (onTab_iff.1 q).2))] at e
      omega
  · intro p hp
    show (if p = (thAt z.ts n).owner then (z.hd p).filter (· != n) ++ (if tp = 2 then [n] else []) else z.hd p).length ≤ 10
    have h10 := S.hand p hp
    split
    · next e =>
      rw [List.length_append]
      have hf := List.length_filter_le (fun x => x != n) (z.hd p)
      by_cases h2 : tp = 2
      · rw [if_pos h2]
        by_cases hq : (thAt z.ts n).place = 2
        · have := filter_lt (((S.hds p hp).2 n).2 ⟨hn, e.symm, hq⟩)
          simp only [List.length_singleton]
          omega
        · have := M.hand h2 hq
          rw [← e] at this
          simp only [List.length_singleton]
          omega
      · rw [if_neg h2]
        simp only [List.length_nil]
        omega
    · exact h10
  · intro p hp
    exact holds_come hn p 1 _ (S.dks p hp)
  · intro p hp
    exact holds_come hn p 2 _ (S.hds p hp)
  · intro a b ha hb pa pb hs
    rw [come_there] at ha hb
    rw [come_at tp hn ha] at pa hs
    rw [come_at tp hn hb] at pb hs
    by_cases ea : a = n
    · by_cases eb : b = n
      · rw [ea, eb]
      · rw [if_pos ea] at pa hs
        rw [if_neg eb] at pb hs
        rw [coming_place] at pa
        have h1 := ((S.each _ (there_mem hb)).2.2.2.2 pb).2.1
        rw [← hs] at h1
        unfold Zs.coming at h1
        rw [if_pos pa] at h1
        exact absurd h1 (Int.lt_irrefl _)
    · rw [if_neg ea] at pa hs
      by_cases eb : b = n
      · rw [if_pos eb] at pb hs
        rw [coming_place] at pb
        have h1 := ((S.each _ (there_mem ha)).2.2.2.2 pa).2.1
        rw [hs] at h1
        unfold Zs.coming at h1
        rw [if_pos pb] at h1
        exact absurd h1 (Int.lt_irrefl _)
      · rw [if_neg eb] at pb hs
        exact S.stamps a b ha hb pa pb hs
end Go.Proofs.YtmemeloehgemcaaGreat
