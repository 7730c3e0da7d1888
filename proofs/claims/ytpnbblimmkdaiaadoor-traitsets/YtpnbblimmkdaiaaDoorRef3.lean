/-
  What the document's own answer tells as a set's text; when two lists of traits are the same.
-/
import Derived.Test.YtpnbblimmkdaiaaDoorRef2
import Derived.Test.YtpnbblimmkdaiaaDoorPrint
import Derived.Test.YtpnbblimmkdaiaaDoorBits
namespace Go.Proofs.YtpnbblimmkdaiaaDoor
open Go.RowKit

/-- v reads as these numbers. -/
def At (w : World) (v : Value) (l : List Int) : Prop := ∃ (p : Option Addr) (cp : Nat), v = .slice p l.length cp ∧ ∀ (k : Nat) (t : Int), l[k]? = some t → ∃ g, p = some ⟨g, 0, none⟩ ∧ w.cell? ⟨g, k, none⟩ = some (.int .u8 t)
theorem Own.reads {w : World} {base : Nat} {v : Value} {l : List Int} (O : Own w base 24 v (u8s l)) : At w v l := by
  rcases O.at with ⟨rfl, h0⟩ | ⟨g, cap, rfl, _, _, _, hc⟩
  · have e0 : l = [] := by simpa [u8s] using h0
    subst e0
    exact ⟨none, 0, rfl, fun k t h => by simp at h⟩
  · refine ⟨some ⟨g, 0, none⟩, cap, by rw [length_u8s], fun k t h => ⟨g, rfl, (hc k (.int .u8 t) (by simp [u8s, h])).1⟩⟩
theorem At.keep {w w' : World} {v : Value} {l : List Int} (h : At w v l) (g : w.grownBy w' none) : At w' v l := by
  obtain ⟨p, cp, e, hc⟩ := h
  exact ⟨p, cp, e, fun k t ht => let ⟨b, hb, hk⟩ := hc k t ht; ⟨b, hb, g.cell hk (by simp)⟩⟩
/-- Where a list of the call's own lies. -/
theorem Own.lies {w : World} {base : Nat} {ty : TypeId} {v : Value} {l : List Value} (h : Own w base ty v l) : (v = .slice none 0 0 ∧ l = []) ∨ ∃ g cap cur, v = .slice (some ⟨g, 0, none⟩) l.length cap ∧ base ≤ g ∧ w.heap[g]? = some (.cells cur ty (0, 0)) ∧ l.length ≤ cur.size := by
  obtain ⟨h1, h2⟩ := h
  rcases h2 with ⟨rfl, h0⟩ | ⟨g, cap, cur, rfl, hg0, hh, hn, hm, hs, ht⟩
  · exact Or.inl ⟨rfl, List.eq_nil_of_length_eq_zero h0⟩
  · exact Or.inr ⟨g, cap, cur, rfl, hg0, hh, by omega⟩
set_option maxRecDepth 100000 in
set_option maxHeartbeats 2000000 in
theorem same_any (va vb : Value) (l : List Int) (w : World) (hl : l.length ≤ 8) (ha : At w va l) (hb : At w vb l) : Calls Tryd.prog 25 #[va, vb] w fun e w' => e = .returned (.bool true) ∧ w.grownBy w' none := by
  obtain ⟨p, cp, rfl, hca⟩ := ha
  obtain ⟨q, cq, rfl, hcb⟩ := hb
  have HA : Hid (∀ (k : Nat) (t : Int), l[k]? = some t → ∃ g, p = some ⟨g, 0, none⟩ ∧ w.cell? ⟨g, k, none⟩ = some (.int .u8 t)) := hca
  have HB : Hid (∀ (k : Nat) (t : Int), l[k]? = some t → ∃ g, q = some ⟨g, 0, none⟩ ∧ w.cell? ⟨g, k, none⟩ = some (.int .u8 t)) := hcb
  clear hca hcb
  go_enter Tryd.func25, Tryd.ntmps25
  go_wp2_with fail
  go_loopw [5] (fun i wr => ∃ (k : Nat), k ≤ l.length ∧ i = .int .i64 k ∧ w.grownBy wr none) (fun i _ => l.length - (intOf i).toNat)
  case atStart => exact ⟨0, by omega, rfl, grown_refl _ _⟩
  case round =>
    obtain ⟨k, hk, rfl, G⟩ := hrel
    rcases (show k = l.length ∨ k < l.length from by omega) with rfl | hlt
    · go_wp2
      go_ret
      exact ⟨rfl, G⟩
    · have hlt' : (k : Int) < (l.length : Int) := by omega
      have hk0 : (0 : Int) ≤ (k : Int) := by omega
      have hw : wrap64 ((k : Int) + 1) = (k : Int) + 1 := by unfold wrap64; omega
      have ht : l[k]? = some l[k] := List.getElem?_eq_getElem hlt
      obtain ⟨g1, rfl, c1⟩ := HA.out k _ ht
      obtain ⟨g2, rfl, c2⟩ := HB.out k _ ht
      have d1 := G.cell c1 (by simp)
      have d2 := G.cell c2 (by simp)
      generalize l[k] = t at d1 d2
      clear c1 c2 ht HA HB
      go_wp2_with fail
      go_region
      go_wp2
      go_roundw
      case rel => first | exact ⟨k + 1, by omega, by go_num, G⟩ | exact ⟨k + 1, by omega, by go_num, grown_trans G (grown_drewN _ 1 _)⟩
      case measure => simp [intOf]; omega
/-- The text of the first k of a list. -/
def jn (l : List Int) (k : Nat) : ByteArray := ⟨(Lib.join ((l.take k).map nameL) [32]).toArray⟩
theorem jn_one {l : List Int} {t : Int} (h : l[0]? = some t) : jn l 1 = tName t := by
  unfold jn
  rw [List.take_add_one, h]
  simp only [List.take_zero, Option.toList_some, List.nil_append, List.map_cons, List.map_nil, Lib.join_one]
  exact Lib.mk_data _
theorem join_snoc (sep x : List UInt8) : ∀ l : List (List UInt8), l ≠ [] → Lib.join (l ++ [x]) sep = Lib.join l sep ++ sep ++ x
  | [], h => absurd rfl h
  | y :: r, _ => by
    rw [List.cons_append, Lib.join_cons, Lib.join_cons]
    simp [Lib.joinTail, List.append_assoc]
theorem ba_app (a b : ByteArray) : a ++ b = ⟨(a.data.toList ++ b.data.toList).toArray⟩ := by
  obtain ⟨⟨x⟩⟩ := a
  obtain ⟨⟨y⟩⟩ := b
  apply ByteArray.ext
  rw [ByteArray.data_append]
  simp
theorem jn_succ {l : List Int} {k : Nat} {t : Int} (hk : 1 ≤ k) (h : l[k]? = some t) : jn l k ++ (⟨#[32]⟩ : ByteArray) ++ tName t = jn l (k + 1) := by
  have hlt := (List.getElem?_eq_some_iff.1 h).1
  have hne : (l.take k).map nameL ≠ [] := by
    intro e
    have := congrArg List.length e
    rw [List.length_map, List.length_take, List.length_nil] at this
    omega
  rw [ba_app, ba_app]
  unfold jn
  rw [List.take_add_one, h]
  simp only [Option.toList_some, List.map_append, List.map_cons, List.map_nil]
  rw [join_snoc [32] _ _ hne]
  simp [nameL]
theorem jn_len (l : List Int) (k : Nat) (h : l.length ≤ 8) : (jn l k).size ≤ 48 := by
  have ht := tail_len [32] ((l.take k).map nameL) (fun x hx => by
    rw [List.mem_map] at hx
    obtain ⟨t, _, rfl⟩ := hx
    exact name_len t)
  rw [List.length_map, List.length_take] at ht
  rw [Lib.size_eq]
  show (Lib.join ((l.take k).map nameL) [32]).length ≤ 48
  have : ([32] : List UInt8).length = 1 := rfl
  rw [this] at ht
  omega
theorem name_size (t : Int) : (tName t).size ≤ 5 := by
  rw [Lib.size_eq]
  exact name_len t
set_option maxRecDepth 100000 in
set_option maxHeartbeats 2000000 in
theorem rprint_any (s : Int) (w : World) : Calls Tryd.prog 27 #[.int .u16 s] w fun e w' => e = .returned (.string (tPrint s)) ∧ w.grownBy w' none := by
  unfold tPrint
  have hl8 := list_len s
  obtain ⟨l, hl⟩ : ∃ l, l = tList s := ⟨_, rfl⟩
  have HL : Hid (l = tList s) := hl
  rw [← hl] at hl8 ⊢
  clear hl
  go_enter Tryd.func27, Tryd.ntmps27
  go_wp2_with fail
  refine (rlist_any _ _).mono ?_
  rintro e w1 ⟨v, rfl, O, g1⟩
  rw [← HL.out] at O
  obtain ⟨p, cp, rfl, hc⟩ := O.reads
  have HC : Hid (∀ (k : Nat) (t : Int), l[k]? = some t → ∃ g, p = some ⟨g, 0, none⟩ ∧ w1.cell? ⟨g, k, none⟩ = some (.int .u8 t)) := hc
  clear O hc
  cases hl0 : l with
  | nil =>
    subst hl0
    go_wp2
    go_ret
    exact ⟨rfl, g1⟩
  | cons t0 r =>
    rw [← hl0]
    have h0 : l[0]? = some t0 := by rw [hl0]; rfl
    have hpos : (0 : Int) < (l.length : Int) := by rw [hl0]; simp
    have hne : ¬ (l.length : Int) = 0 := by omega
    have hpr : prL l = Lib.join ((l.take l.length).map nameL) [32] := by
      unfold prL
      rw [if_neg (by rw [hl0]; simp), List.take_length]
    have HP : Hid (prL l = Lib.join ((l.take l.length).map nameL) [32]) := hpr
    have HT : Hid (jn l 1 = tName t0) := jn_one h0
    obtain ⟨g, rfl, c0⟩ := HC.out 0 _ h0
    clear hl0 hpr h0
    go_wp2_with fail
    refine (rname_any _ _).mono ?_
    rintro e w2 ⟨rfl, g2⟩
    rw [← HT.out]
    have G2 := grown_trans g1 g2
    go_wp2_with fail
    go_loopw [4, 5] (fun x i wr => ∃ (k : Nat), 1 ≤ k ∧ k ≤ l.length ∧ i = .int .i64 k ∧ x = .string (jn l k) ∧ w1.grownBy wr none) (fun _ i _ => l.length - (intOf i).toNat)
    case atStart => exact ⟨1, by omega, by omega, rfl, rfl, g2⟩
    case round =>
      obtain ⟨k, hk1, hk, rfl, rfl, G⟩ := hrel
      rcases (show k = l.length ∨ k < l.length from by omega) with rfl | hlt
      · go_wp2
        go_ret
        exact ⟨by rw [HP.out]; rfl, grown_trans g1 G⟩
      · have hlt' : (k : Int) < (l.length : Int) := by omega
        have hk0 : (0 : Int) ≤ (k : Int) := by omega
        have hw : wrap64 ((k : Int) + 1) = (k : Int) + 1 := by unfold wrap64; omega
        have ht : l[k]? = some l[k] := List.getElem?_eq_getElem hlt
        have HJ : Hid (jn l k ++ (⟨#[32]⟩ : ByteArray) ++ tName l[k] = jn l (k + 1)) := jn_succ hk1 ht
        obtain ⟨g', eg, c1⟩ := HC.out k _ ht
        obtain rfl : g = g' := by simpa using eg
        have d1 := G.cell c1 (by simp)
        have n1 := jn_len l k hl8
        have n2 := name_size l[k]
        generalize l[k] = t at d1 HJ n2
        have b1 : ¬ 9223372036854775807 < (jn l k).size + 1 := by omega
        have b2 : ¬ 9223372036854775807 < (jn l k).size + 1 + (tName t).size := by omega
        clear n1 n2
        clear c1 ht eg c0
        go_wp2_with fail
        refine (rname_any _ _).mono ?_
        rintro e w3 ⟨rfl, g3⟩
        go_wp2_with fail
        go_roundw
        case rel => exact ⟨k + 1, by omega, by omega, by go_num, by rw [HJ.out], grown_trans G g3⟩
        case measure => simp [intOf]; omega
end Go.Proofs.YtpnbblimmkdaiaaDoor
