/-
  What trait.Print tells of every set: the names of its traits, a blank between each two; a - of none.
-/
import Derived.Test.YtpnbblimmkdaiaaDoorGather
import Derived.Test.YtpnbblimmkdaiaaDoorJoin
namespace Go.Proofs.YtpnbblimmkdaiaaDoor
open Go.RowKit

def nameL (t : Int) : List UInt8 := (tName t).data.toList
/-- The text of a list of traits. -/
def prL (l : List Int) : List UInt8 := if l = [] then [45] else Lib.join (l.map nameL) [32]
def tPrint (s : Int) : ByteArray := ⟨(prL (tList s)).toArray⟩
def strs (l : List Int) : List Value := l.map fun t => Value.string (tName t)
theorem length_strs (l : List Int) : (strs l).length = l.length := by simp [strs]
theorem strs_snoc (l : List Int) (t : Int) : strs (l ++ [t]) = strs l ++ [Value.string (tName t)] := by simp [strs]
theorem own_strs {w : World} {base : Nat} {v : Value} {l : List Int} (h : Own w base 9 v (strs l)) : w.ownsRow base 9 1 v l.length (strs l) := by
  have := h
  unfold Own at this
  rwa [length_strs] at this
theorem Tryd.info9 : (Tryd.prog.info? 9).map (fun i => (i.zero, i.size, i.bytes)) = some (some (.string ByteArray.empty), 1, 16) := by kernel_rfl
theorem upto_eight (s : Int) : ∀ k, k ≤ 8 → ∀ t ∈ tUpto s k, Eight t
  | 0, _, t, ht => by simp [tUpto] at ht
  | k + 1, h, t, ht => by
    simp only [tUpto, List.mem_append] at ht
    rcases ht with ht | ht
    · exact upto_eight s k (by omega) t ht
    · split at ht
      · simp at ht
        subst ht
        unfold Eight
        omega
      · simp at ht
theorem list_eight (s : Int) : ∀ t ∈ tList s, Eight t := upto_eight s 8 (Nat.le_refl _)
theorem list_len (s : Int) : (tList s).length ≤ 8 := upto_len s 8
theorem name_len (t : Int) : (nameL t).length ≤ 5 := by
  rcases eight_or t with h | h
  · rcases h with rfl | rfl | rfl | rfl | rfl | rfl | rfl | rfl <;> decide
  · unfold nameL
    rw [(eight_no t h).1]
    decide
theorem tail_len (sep : List UInt8) : ∀ l : List (List UInt8), (∀ x ∈ l, x.length ≤ 5) → (Lib.join l sep).length ≤ l.length * (5 + sep.length)
  | [], _ => by simp [Lib.join_nil]
  | [x], h => by
    have := h x (by simp)
    rw [Lib.join_one]
    simp
    omega
  | x :: y :: r, h => by
    have h1 := h x (by simp)
    have h2 := tail_len sep (y :: r) (fun z hz => h z (List.mem_cons_of_mem _ hz))
    have e : Lib.join (x :: y :: r) sep = x ++ sep ++ Lib.join (y :: r) sep := by simp [Lib.join, List.intercalate]
    rw [e]
    simp only [List.length_append, List.length_cons] at h2 ⊢
    rw [Nat.add_mul]
    omega
set_option maxRecDepth 100000 in
set_option maxHeartbeats 4000000 in
theorem print_any (s : Int) (w : World) (N : NamesAt w) : Calls Tryd.prog 26 #[.int .u16 s] w fun e w' => e = .returned (.string (tPrint s)) ∧ w.grownBy w' none := by
  obtain ⟨i0, hi, hz0, hz1, hz2⟩ := info_parts Tryd.info9
  unfold tPrint
  have h8 : ∀ t ∈ tList s, Eight t := list_eight s
  have hl8 := list_len s
  obtain ⟨l, hl⟩ : ∃ l, l = tList s := ⟨_, rfl⟩
  have HL : Hid (l = tList s) := hl
  rw [← hl] at h8 hl8 ⊢
  clear hl
  have H8 : Hid (∀ t ∈ l, Eight t) := h8
  clear h8
  go_enter Tryd.func26, Tryd.ntmps26
  go_wp2_with fail
  refine (list_any _ _).mono ?_
  rintro e w1 ⟨v, rfl, O, g1⟩
  rw [← HL.out] at O
  have N1 := N.keep g1
  clear N
  rcases O.at with ⟨rfl, hl0⟩ | ⟨g, cap, rfl, hg0, hg1, hcap, hcell⟩
  · have e0 : l = [] := by simpa [u8s] using hl0
    subst e0
    clear O hl0
    go_wp2_with fail
    go_loopw [3, 9] (fun v i wr => v = .slice none 0 0 ∧ i = .int .i64 0 ∧ w.grownBy wr none)
      (fun _ _ _ => 0)
    case atStart => exact ⟨rfl, rfl, g1⟩
    case round =>
      obtain ⟨rfl, rfl, G⟩ := hrel
      go_wp2
      go_ret
      exact ⟨rfl, G⟩
  · rw [length_u8s] at hcap ⊢
    have HC : Hid (∀ (j : Nat) x, (u8s l)[j]? = some x → w1.cell? ⟨g, j, none⟩ = some x ∧ w1.frozen? ⟨g, j, none⟩ = false) := hcell
    clear hcell O
    go_wp2_with fail
    go_loopw [3, 9] (fun v i wr => ∃ (k : Nat), k ≤ l.length ∧ i = .int .i64 k ∧ Own wr w1.heap.size 9 v (strs (l.take k)) ∧ w1.grownBy wr none)
      (fun _ i _ => l.length - (intOf i).toNat)
    case atStart => exact ⟨0, Nat.zero_le _, rfl, Own.nil _ _ _, grown_refl _ _⟩
    case round =>
      obtain ⟨k, hk, rfl, O, G⟩ := hrel
      rcases (show k < l.length ∨ k = l.length from by omega) with hlt | rfl
      · have hlt' : (k : Int) < (l.length : Int) := by omega
        have hk0 : (0 : Int) ≤ (k : Int) := by omega
        obtain ⟨t, ht⟩ : ∃ t, l[k]? = some t := ⟨l[k], List.getElem?_eq_getElem hlt⟩
        have ck : wr.cell? ⟨g, k, none⟩ = some (.int .u8 t) := G.cell (HC.out k (.int .u8 t) (by simp [u8s, ht])).1 (by simp)
        have ht8 : Eight t := H8.out t (List.mem_of_getElem? ht)
        have htk : l.take (k + 1) = l.take k ++ [t] := by rw [List.take_add_one, ht]; rfl
        have HT : Hid (l.take (k + 1) = l.take k ++ [t]) := htk
        have hlen : (l.take k).length = k := by rw [List.length_take]; omega
        have hw : wrap64 ((k : Int) + 1) = (k : Int) + 1 := by unfold wrap64; omega
        obtain ⟨q, cp, ev⟩ := O.form
        rw [length_strs, hlen] at ev
        subst ev
        have O1 : World.ownsRow wr w1.heap.size 9 1 (.slice q k cp) k (strs (l.take k)) := by have := own_strs O; rwa [hlen] at this
        have HO : Hid (Own wr w1.heap.size 9 (.slice q k cp) (strs (l.take k))) := O
        have hsz := G.size
        obtain ⟨c1, c2, c3, c4, c5, c6, c7, c8⟩ := N1.keep G
        clear O htk ht
        have HN : Hid ((l.take k).length = k) := hlen
        clear hlen
        rcases ht8 with rfl | rfl | rfl | rfl | rfl | rfl | rfl | rfl
        all_goals
          go_wp2_with (at_builtin; refine wpList_append_own_at _ rfl (.tmp 13) (.tmp 17) 54 rfl w1.heap.size 9 i0 (.string ByteArray.empty) 1 16 Tryd.underlying54 hi hz0 hz1 hz2 rfl (by decide) _ _ _ rfl (World.ownsRow.alloc O1 _) ⟨wr.heap.size, 0, none⟩ 1 1 [_] rfl rfl (cell_one_new _ _ _) (fun x hx => by simp at hx; subst hx; rfl) (by unfold maxLen; omega) (by omega) (by simp; omega) ?_; intro v' w3 hown' hgrow3 hnil3 hlie3)
          go_roundw
          case rel => exact ⟨k + 1, by omega, by go_num, by rw [HT.out, strs_snoc]; exact own_snoc hown' (by rw [length_strs, HN.out]), grown_own (grown_push G _) hgrow3 (fun x hx => HO.out.block x hx)⟩
          case measure => simp [intOf]; omega
      · rw [List.take_length] at O
        rcases O.at with ⟨rfl, hl0⟩ | ⟨gw, cw, rfl, hgw, hgw1, hcw, hcl⟩
        · have e0 : l = [] := by simpa [strs] using hl0
          subst e0
          clear O hl0
          go_wp2
          go_ret
          exact ⟨rfl, grown_trans g1 G⟩
        · rw [length_strs] at hcw ⊢
          by_cases hne : l = []
          · subst hne
            clear O
            go_wp2
            go_ret
            exact ⟨rfl, grown_trans g1 G⟩
          · have hpos : ¬ (l.length : Int) = 0 := by have := List.length_pos_iff.2 hne; omega
            have HJ := Tryd.strings_Join gw 0 cw (l.map tName) ⟨#[32]⟩ wr (fun j x hx => by
              rw [Nat.zero_add]
              refine (hcl j (.string x) ?_).1
              rw [List.getElem?_map] at hx
              unfold strs
              rw [List.getElem?_map]
              cases hj : l[j]? with
              | none => rw [hj] at hx; cases hx
              | some y => rw [hj] at hx; simp at hx; subst hx; rfl) hgw1 (by simp; omega) (by simpa using hcw) (by
                have := tail_len [32] ((l.map tName).map (·.data.toList)) (fun x hx => by
                  simp at hx
                  obtain ⟨t, _, rfl⟩ := hx
                  exact name_len t)
                simp at this ⊢
                omega)
            rw [List.length_map] at HJ
            have hpr : prL l = Lib.join ((l.map tName).map (·.data.toList)) [32] := by
              unfold prL
              rw [if_neg hne, List.map_map]
              rfl
            have HP : Hid (prL l = Lib.join ((l.map tName).map (·.data.toList)) [32]) := hpr
            have HJ' : Hid (Calls Tryd.prog 39 #[.slice (some ⟨gw, 0, none⟩) l.length cw, .string ⟨#[32]⟩] wr fun e w' => e = .returned (.string ⟨(Lib.join ((l.map tName).map (·.data.toList)) [32]).toArray⟩) ∧ Below wr.heap.size wr w') := HJ
            clear O HJ hpr hcl hne
            go_wp2_with fail
            refine HJ'.out.mono ?_
            rintro e w4 ⟨rfl, b4⟩
            rw [← HP.out]
            go_wp2
            go_ret
            exact ⟨rfl, grown_trans (grown_trans g1 G) ⟨b4.os, b4.tape, b4.output, b4.size, fun k hk _ => b4.block k hk⟩⟩
end Go.Proofs.YtpnbblimmkdaiaaDoor
