/-
  At: the card of a number.
  == of what two books hold beside their cards.
-/
import Derived.Test.YtbcggjacjfcldaaGreatDoorB11
import Derived.Test.YtbcggjacjfcldaaGreatDoorB4
import Derived.DeepKeys
import Derived.ChangeKeysEq
namespace Go.Proofs.YtbcggjacjfcldaaGreatDoor
open Go.RowKit

def atIn (p : Pl) (es : List Ent) (n : Int) : Prop := p.shut = true ∧ 1 ≤ n ∧ n ≤ es.length
set_option maxRecDepth 100000 in
set_option maxHeartbeats 1000000 in
theorem at_no (v : Value) (n : Int) (w : World) (h : NoBk w v) : Calls Tryz.prog 24 #[v, .int .i64 n] w fun e w' => e = .returned (.tuple #[cv Hd.none (.slice none 0 0), .int .i64 1]) ∧ w.grownBy w' none := by
  obtain ⟨W1, hW1⟩ : ∃ W1, W1 = w.alloc (.cells (ccs Hd.none (.slice none 0 0)) 55) := ⟨_, rfl⟩
  have HG1 : Hid (w.grownBy W1 none) := by rw [hW1]; exact World.grownBy_alloc _ _ none
  have HC1 : Hid (CAt W1 w.heap.size Hd.none (.slice none 0 0)) := by rw [hW1]; exact alloc_at w _ _
  have H : Hid (NoBk W1 v) := h.keep HG1.out
  obtain ⟨z0, z1, z2, z3, z4, z5, z6, z7, z8⟩ := HC1.out.cells
  have zf := fun i => HC1.out.free i
  unfold ccs Hd.none at hW1
  simp only [Hd.none] at z0 z1 z2 z3 z4 z5 z6 z7 z8
  clear h
  go_enter Tryz.func24, Tryz.ntmps24
  go_upto_region 1 with fail
  rw [← hW1]
  clear hW1
  go_wp2_with (first | (go_at_call 50; refine (isBook_no _ _ H.out).mono ?_; rintro e w1 ⟨rfl, h1⟩; obtain rfl : W1 = w1 := h1.symm) | fail)
  refine bodyPost_ret (v := .tuple #[cv Hd.none (.slice none 0 0), .int .i64 1]) (by simp [results, Tryz.results24, go_sem, z0, z1, z2, z3, z4, z5, z6, z7, z8, cv, Hd.none]) rfl ⟨rfl, ?_⟩
  have := grown_own HG1.out (grown_s9 W1 w.heap.size 0 Hd.none (.slice none 0 0)) (fun x e => by cases e; exact Nat.le_refl _)
  unfold set9 Hd.none at this
  simp only [Nat.zero_add] at this
  exact this
set_option maxRecDepth 100000 in
set_option maxHeartbeats 1000000 in
theorem at_out (b : Nat) (es : List Ent) (p : Pl) (n : Int) (w : World) (hB : BkIn w b es p) (hn : ¬ atIn p es n) : Calls Tryz.prog 24 #[.pointer (some ⟨b, 0, none⟩), .int .i64 n] w fun e w' => e = .returned (.tuple #[cv Hd.none (.slice none 0 0), .int .i64 6]) ∧ w.grownBy w' none := by
  obtain ⟨W1, hW1⟩ : ∃ W1, W1 = w.alloc (.cells (ccs Hd.none (.slice none 0 0)) 55) := ⟨_, rfl⟩
  have HG1 : Hid (w.grownBy W1 none) := by rw [hW1]; exact World.grownBy_alloc _ _ none
  have HC1 : Hid (CAt W1 w.heap.size Hd.none (.slice none 0 0)) := by rw [hW1]; exact alloc_at w _ _
  have HB1 : Hid (BkIn W1 b es p) := hB.keep HG1.out
  have HF := isBook_yes b es.length p W1 HB1.out.flags
  have s1 := HB1.out.flags.shut
  have s2 := HB1.out.flags.count
  obtain ⟨z0, z1, z2, z3, z4, z5, z6, z7, z8⟩ := HC1.out.cells
  have zf := fun i => HC1.out.free i
  unfold ccs Hd.none at hW1
  simp only [Hd.none] at z0 z1 z2 z3 z4 z5 z6 z7 z8
  have LAST : Hid (w.grownBy (set9 W1 w.heap.size 0 Hd.none (.slice none 0 0)) none) := grown_own HG1.out (grown_s9 W1 w.heap.size 0 Hd.none (.slice none 0 0)) (fun x e => by cases e; exact Nat.le_refl _)
  unfold set9 Hd.none at LAST
  simp only [Nat.zero_add] at LAST
  unfold atIn at hn
  clear hB
  cases hs : p.shut with
  | false =>
    rw [hs] at s1
    clear hn
    go_enter Tryz.func24, Tryz.ntmps24
    go_upto_region 1 with fail
    rw [← hW1]
    clear hW1
    go_wp2_with (first | (go_at_call 50; refine HF.mono ?_; rintro e w1 ⟨rfl, h1⟩; obtain rfl : W1 = w1 := h1.symm) | fail)
    refine bodyPost_ret (v := .tuple #[cv Hd.none (.slice none 0 0), .int .i64 6]) (by simp [results, Tryz.results24, go_sem, z0, z1, z2, z3, z4, z5, z6, z7, z8, cv, Hd.none]) rfl ⟨rfl, LAST.out⟩
  | true =>
    rw [hs] at s1
    by_cases h1 : n < 1
    · clear hn
      go_enter Tryz.func24, Tryz.ntmps24
      go_upto_region 1 with fail
      rw [← hW1]
      clear hW1
      go_wp2_with (first | (go_at_call 50; refine HF.mono ?_; rintro e w1 ⟨rfl, h1⟩; obtain rfl : W1 = w1 := h1.symm) | fail)
      refine bodyPost_ret (v := .tuple #[cv Hd.none (.slice none 0 0), .int .i64 6]) (by simp [results, Tryz.results24, go_sem, z0, z1, z2, z3, z4, z5, z6, z7, z8, cv, Hd.none]) rfl ⟨rfl, LAST.out⟩
    · have h2 : (es.length : Int) < n := by
        have : ¬ (1 ≤ n ∧ n ≤ es.length) := fun h => hn ⟨hs, h⟩
        omega
      have h1' : 1 ≤ n := by omega
      clear hn h1
      go_enter Tryz.func24, Tryz.ntmps24
      go_upto_region 1 with fail
      rw [← hW1]
      clear hW1
      go_wp2_with (first | (go_at_call 50; refine HF.mono ?_; rintro e w1 ⟨rfl, h1⟩; obtain rfl : W1 = w1 := h1.symm) | fail)
      refine bodyPost_ret (v := .tuple #[cv Hd.none (.slice none 0 0), .int .i64 6]) (by simp [results, Tryz.results24, go_sem, z0, z1, z2, z3, z4, z5, z6, z7, z8, cv, Hd.none]) rfl ⟨rfl, LAST.out⟩
set_option maxRecDepth 100000 in
set_option maxHeartbeats 2000000 in
theorem at_in (ok : Nat → Prop) (b : Nat) (es : List Ent) (p : Pl) (m : Nat) (e0 : Ent) (w : World) (hB : BkIn w b es p) (hG : Good ok w es) (hs : p.shut = true) (he : es[m]? = some e0) (hl : e0.ps.length ≤ 4) : Calls Tryz.prog 24 #[.pointer (some ⟨b, 0, none⟩), .int .i64 ((m : Int) + 1)] w fun e w' => ∃ u, e = .returned (.tuple #[cv e0.h u, .int .i64 0]) ∧ POwn w' w.heap.size u e0.ps ∧ w.grownBy w' none := by
  obtain ⟨W1, hW1⟩ : ∃ W1, W1 = w.alloc (.cells (ccs Hd.none (.slice none 0 0)) 55) := ⟨_, rfl⟩
  have HG1 : Hid (w.grownBy W1 none) := by rw [hW1]; exact World.grownBy_alloc _ _ none
  have HC1 : Hid (CAt W1 w.heap.size Hd.none (.slice none 0 0)) := by rw [hW1]; exact alloc_at w _ _
  have hS1 : W1.heap.size = w.heap.size + 1 := by rw [hW1]; simp
  have HB1 : Hid (BkIn W1 b es p) := hB.keep HG1.out
  have HF := isBook_yes b es.length p W1 HB1.out.flags
  have s1 := HB1.out.flags.shut
  have s2 := HB1.out.flags.count
  rw [hs] at s1
  have hm : m < es.length := (List.getElem?_eq_some_iff.1 he).1
  have h64 := HB1.out.len
  have PS := (hG e0 (List.mem_of_getElem? he)).1.keep HG1.out
  have D := HB1.out.row m e0 he
  rw [Nat.zero_add] at D
  obtain ⟨hd, v, ps⟩ := e0
  simp only at PS hl D ⊢
  obtain ⟨a, c, rfl⟩ := PS.form
  obtain ⟨d0, d1, d2, d3, d4, d5, d6, d7, d8⟩ := D
  have HCP := ccopy_any hd (.slice a ps.length c) ps W1 PS (by omega)
  unfold cv at HCP ⊢
  unfold ccs Hd.none at hW1
  have q1 : 1 ≤ (m : Int) + 1 := by omega
  have q2 : (m : Int) + 1 ≤ (es.length : Int) := by omega
  have q3 : wrap64 ((m : Int) + 1 - 1) = (m : Int) := by unfold wrap64; omega
  have q4 : (0 : Int) ≤ (m : Int) := by omega
  have q5 : (m : Int) < 64 := by omega
  clear hB hG he hm h64 PS hl
  go_enter Tryz.func24, Tryz.ntmps24
  go_upto_region 1 with fail
  rw [← hW1]
  clear hW1
  go_wp2_with (first | (go_at_call 50; refine HF.mono ?_; rintro e w1 ⟨rfl, h1⟩; obtain rfl : W1 = w1 := h1.symm) | (go_at_call 51; refine HCP.mono ?_; rintro e w2 ⟨u, rfl, o2, g2⟩; obtain ⟨a2, k2, rfl⟩ := o2.at.form; have HO2 : Hid (POwn w2 W1.heap.size (.slice a2 ps.length k2) ps) := o2; have HG2 : Hid (w.grownBy w2 none) := grown_trans HG1.out g2; have C2 := HC1.out.keep g2; obtain ⟨z0, z1, z2, z3, z4, z5, z6, z7, z8⟩ := C2.cells; have zf := fun i => C2.free i; simp only [Hd.none] at z0 z1 z2 z3 z4 z5 z6 z7 z8; clear o2 C2 d0 d1 d2 d3 d4 d5 d6 d7 d8) | fail)
  refine bodyPost_ret (v := .tuple #[cv hd (.slice a2 ps.length k2), .int .i64 0]) (by simp [results, Tryz.results24, go_sem, z0, z1, z2, z3, z4, z5, z6, z7, z8, cv]) rfl ⟨.slice a2 ps.length k2, rfl, ?_, ?_⟩
  · have := (HO2.out.keep (grown_s9 w2 w.heap.size 0 hd (.slice a2 ps.length k2)) (fun x e => by cases e; omega)).big (show w.heap.size ≤ W1.heap.size by omega)
    unfold set9 at this
    simp only [Nat.zero_add] at this
    exact this
  · have := grown_own HG2.out (grown_s9 w2 w.heap.size 0 hd (.slice a2 ps.length k2)) (fun x e => by cases e; exact Nat.le_refl _)
    unfold set9 at this
    simp only [Nat.zero_add] at this
    exact this
end Go.Proofs.YtbcggjacjfcldaaGreatDoor
namespace Go.Proofs.YtbcggjacjfcldaaGreatDoor
open Go.RowKit

/-- What a book holds is small. -/
structure Pl.fine (p : Pl) : Prop where
  nine : p.nms.length = 9
  five : p.mks.length = 5
  nms : ∀ s ∈ p.nms, s.size ≤ 20
  mks : ∀ m ∈ p.mks, 0 ≤ m.mi ∧ m.mi ≤ 4 ∧ -9 ≤ m.po ∧ m.po ≤ 9 ∧ -9 ≤ m.he ∧ m.he ≤ 9 ∧ m.nm.size ≤ 20
def mlits (m : Mk) : List Lit := [.int .u8 m.mi, .string m.nm.data.toList, .int .i64 m.po, .int .i64 m.he]
def plits (n : Nat) (p : Pl) : List Lit := .bool true :: .bool p.shut :: .int .i64 (n : Int) :: (p.nms.map (fun s => Lit.string s.data.toList) ++ (p.mks.map mlits).flatten)
theorem cellsOf9 : Tryz.prog.cellsOf 9 = 1 := by kernel_rfl
theorem cellsOf3 : Tryz.prog.cellsOf 3 = 1 := by kernel_rfl
theorem cellsOf4 : Tryz.prog.cellsOf 4 = 1 := by kernel_rfl
theorem cellsOfMk : Tryz.prog.cellsOf 58 = 1 := by kernel_rfl
theorem cellsOfMI : Tryz.prog.cellsOf 60 = 4 := by kernel_rfl
theorem cellsOfN : Tryz.prog.cellsOf 57 = 9 := by kernel_rfl
theorem cellsOfM : Tryz.prog.cellsOf 61 = 20 := by kernel_rfl
theorem cellsOfP : Tryz.prog.cellsOf 63 = 32 := by kernel_rfl
theorem keyLits_struct {P : Program} {t : TypeId} {fs : Array Field} (d : Nat) (cs : List Value) (hu : P.underlying t = some (.struct fs)) (hl : cs.length = P.cellsOf t) (hf : fs.all (·.name != "_") = true) : P.keyLits (d + 1) t cs = (fs.toList.mapM fun f => P.keyLits d f.type ((cs.drop f.offset).take (P.cellsOf f.type))).map List.flatten := by
  conv => lhs; unfold Program.keyLits
  simp only [hu]
  rw [if_pos ⟨hl, hf⟩]
theorem keyLits_array {P : Program} {t e : TypeId} {n : Nat} (d : Nat) (cs : List Value) (hu : P.underlying t = some (.array n e)) (hl : cs.length = P.cellsOf t) : P.keyLits (d + 1) t cs = ((List.range n).mapM fun i => P.keyLits d e ((cs.drop (i * P.cellsOf e)).take (P.cellsOf e))).map List.flatten := by
  conv => lhs; unfold Program.keyLits
  simp only [hu]
  rw [if_pos hl]
theorem key_str (d : Nat) (s : ByteArray) (h : s.size ≤ 20) : Tryz.prog.keyLits (d + 1) 9 [.string s] = some [.string s.data.toList] := by
  simp only [Program.keyLits, Tryz.underlying9]
  rw [if_pos (by unfold maxLen; omega)]
theorem key_int (d : Nat) (n : Int) (h : -9223372036854775808 ≤ n ∧ n ≤ 9223372036854775807) : Tryz.prog.keyLits (d + 1) 3 [.int .i64 n] = some [.int .i64 n] := by
  simp only [Program.keyLits, Tryz.underlying3]
  have h1 : IntKind.i64.min = -9223372036854775808 := rfl
  have h2 : IntKind.i64.max = 9223372036854775807 := rfl
  rw [if_pos (by simp [Lit.wf, h1, h2]; omega)]
theorem key_mark (d : Nat) (n : Int) (h : 0 ≤ n ∧ n ≤ 255) : Tryz.prog.keyLits (d + 1) 58 [.int .u8 n] = some [.int .u8 n] := by
  simp only [Program.keyLits, Tryz.underlying58]
  have h1 : IntKind.u8.min = 0 := rfl
  have h2 : IntKind.u8.max = 255 := rfl
  rw [if_pos (by simp [Lit.wf, h1, h2]; omega)]
theorem key_bool (d : Nat) (b : Bool) : Tryz.prog.keyLits (d + 1) 4 [.bool b] = some [.bool b] := by
  simp only [Program.keyLits, Tryz.underlying4]
theorem key_mi (d : Nat) (m : Mk) (h : 0 ≤ m.mi ∧ m.mi ≤ 4 ∧ -9 ≤ m.po ∧ m.po ≤ 9 ∧ -9 ≤ m.he ∧ m.he ≤ 9 ∧ m.nm.size ≤ 20) : Tryz.prog.keyLits (d + 1 + 1) 60 (mvs m) = some (mlits m) := by
  have k0 := key_mark d m.mi (by omega)
  have k1 := key_str d m.nm (by omega)
  have k2 := key_int d m.po (by omega)
  have k3 := key_int d m.he (by omega)
  unfold mvs mlits
  rw [keyLits_struct (d + 1) _ Tryz.underlying60 (by rw [cellsOfMI]; rfl) (by kernel_rfl)]
  simp [ cellsOfMk, cellsOf9, cellsOf3, k0, k1, k2, k3, List.mapM_cons]
theorem nine_of' {α : Type} {X : List α} (h : X.length = 9) : ∃ a b c d e f g i j, X = [a, b, c, d, e, f, g, i, j] := by
  match X, h with
  | [a, b, c, d, e, f, g, i, j], _ => exact ⟨a, b, c, d, e, f, g, i, j, rfl⟩
theorem key_nms (d : Nat) (l : List ByteArray) (h9 : l.length = 9) (h : ∀ s ∈ l, s.size ≤ 20) : Tryz.prog.keyLits (d + 1 + 1) 57 (l.map Value.string) = some (l.map fun s => Lit.string s.data.toList) := by
  obtain ⟨a, b, c, e, f, g, i, j, k, rfl⟩ := nine_of' h9
  simp only [List.mem_cons, List.not_mem_nil, or_false, forall_eq_or_imp, forall_eq] at h
  obtain ⟨h0, h1, h2, h3, h4, h5, h6, h7, h8⟩ := h
  have k0 := key_str d a h0
  have k1 := key_str d b h1
  have k2 := key_str d c h2
  have k3 := key_str d e h3
  have k4 := key_str d f h4
  have k5 := key_str d g h5
  have k6 := key_str d i h6
  have k7 := key_str d j h7
  have k8 := key_str d k h8
  rw [keyLits_array (d + 1) _ Tryz.underlying57 (by rw [cellsOfN]; rfl)]
  simp [ cellsOf9, List.range, List.range.loop, List.mapM_cons, k0, k1, k2, k3, k4, k5, k6, k7, k8]
theorem five_of {α : Type} {X : List α} (h : X.length = 5) : ∃ a b c d e, X = [a, b, c, d, e] := by
  match X, h with
  | [a, b, c, d, e], _ => exact ⟨a, b, c, d, e, rfl⟩
theorem key_mks (d : Nat) (l : List Mk) (h5 : l.length = 5) (h : ∀ m ∈ l, 0 ≤ m.mi ∧ m.mi ≤ 4 ∧ -9 ≤ m.po ∧ m.po ≤ 9 ∧ -9 ≤ m.he ∧ m.he ≤ 9 ∧ m.nm.size ≤ 20) : Tryz.prog.keyLits (d + 1 + 1 + 1) 61 (mcells l) = some (l.map mlits).flatten := by
  have hl : (mcells l).length = Tryz.prog.cellsOf 61 := by rw [cellsOfM, mcells_len, h5]
  obtain ⟨a, b, c, e, f, rfl⟩ := five_of h5
  have k0 := key_mi d a (h a (by simp))
  have k1 := key_mi d b (h b (by simp))
  have k2 := key_mi d c (h c (by simp))
  have k3 := key_mi d e (h e (by simp))
  have k4 := key_mi d f (h f (by simp))
  unfold mvs at k0 k1 k2 k3 k4
  rw [keyLits_array (d + 1 + 1) _ Tryz.underlying61 hl]
  simp [cellsOfMI, List.range, List.range.loop, List.mapM_cons, mcells, mvs, k0, k1, k2, k3, k4]
theorem key_pl (d n : Nat) (p : Pl) (hn : n ≤ 64) (h : p.fine) : Tryz.prog.keyLits (d + 1 + 1 + 1 + 1) 63 (plc n p) = some (plits n p) := by
  have hl : (plc n p).length = Tryz.prog.cellsOf 63 := by
    rw [cellsOfP]
    unfold plc
    simp [mcells_len, h.nine, h.five]
  have k0 := key_bool (d + 1 + 1) true
  have k1 := key_bool (d + 1 + 1) p.shut
  have k2 := key_int (d + 1 + 1) (n : Int) (by omega)
  have k3 := key_nms (d + 1) p.nms h.nine h.nms
  have k4 := key_mks d p.mks h.five h.mks
  have t1 : (p.nms.map Value.string ++ mcells p.mks).take 9 = p.nms.map Value.string := by rw [List.take_append_of_le_length (by simp [h.nine]), List.take_of_length_le (by simp [h.nine])]
  have t2 : (p.nms.map Value.string ++ mcells p.mks).drop 9 = mcells p.mks := by
    rw [List.drop_append, List.drop_of_length_le (by simp [h.nine])]
    simp [h.nine]
  have t3 : (mcells p.mks).take 20 = mcells p.mks := List.take_of_length_le (by rw [mcells_len, h.five]; decide)
  rw [keyLits_struct (d + 1 + 1 + 1) _ Tryz.underlying63 hl (by kernel_rfl)]
  unfold plc plits
  simp [cellsOfN, cellsOfM, cellsOf3, cellsOf4, List.mapM_cons, k0, k1, k2, k3, k4, t1, t2, t3]
def sameMks : List Mk → List Mk → Bool
  | [], [] => true
  | a :: r, b :: s => decide (a.mi = b.mi ∧ a.nm = b.nm ∧ a.po = b.po ∧ a.he = b.he) && sameMks r s
  | _, _ => false
theorem sameMks_iff : ∀ {a b : List Mk}, sameMks a b = true ↔ a = b
  | [], [] => by simp [sameMks]
  | [], _ :: _ => by simp [sameMks]
  | _ :: _, [] => by simp [sameMks]
  | ⟨a0, a1, a2, a3⟩ :: r, ⟨b0, b1, b2, b3⟩ :: s => by
    simp only [sameMks, Bool.and_eq_true, decide_eq_true_eq, sameMks_iff (a := r) (b := s), List.cons.injEq, Mk.mk.injEq]
def samePl (n : Nat) (p : Pl) (m : Nat) (q : Pl) : Bool := decide (n = m ∧ p.shut = q.shut ∧ p.nms = q.nms) && sameMks p.mks q.mks
theorem samePl_iff {n m : Nat} {p q : Pl} : samePl n p m q = true ↔ (n = m ∧ p.shut = q.shut ∧ p.nms = q.nms ∧ p.mks = q.mks) := by
  unfold samePl
  rw [Bool.and_eq_true, decide_eq_true_eq, sameMks_iff]
  constructor
  · rintro ⟨⟨h1, h2, h3⟩, h4⟩; exact ⟨h1, h2, h3, h4⟩
  · rintro ⟨h1, h2, h3, h4⟩; exact ⟨⟨h1, h2, h3⟩, h4⟩
theorem str_inj {s t : ByteArray} (h : Lit.string s.data.toList = Lit.string t.data.toList) : s = t := by
  injection h with h
  exact bytes_inj (by rw [Lib.toList_data, Lib.toList_data, h])
theorem nms_inj : ∀ {a b : List ByteArray}, (a.map fun s => Lit.string s.data.toList) = (b.map fun s => Lit.string s.data.toList) → a = b
  | [], [], _ => rfl
  | [], _ :: _, h => by simp at h
  | _ :: _, [], h => by simp at h
  | x :: r, y :: s, h => by
    simp only [List.map_cons, List.cons.injEq] at h
    rw [str_inj h.1, nms_inj h.2]
theorem mks_inj : ∀ {a b : List Mk}, (a.map mlits).flatten = (b.map mlits).flatten → a = b
  | [], [], _ => rfl
  | [], _ :: _, h => by simp [mlits] at h
  | _ :: _, [], h => by simp [mlits] at h
  | ⟨a0, a1, a2, a3⟩ :: r, ⟨b0, b1, b2, b3⟩ :: s, h => by
    simp only [List.map_cons, List.flatten_cons, mlits, List.cons_append, List.nil_append, List.cons.injEq, Lit.int.injEq, true_and] at h
    obtain ⟨h0, h1, h2, h3, h4⟩ := h
    rw [h0, str_inj h1, h2, h3, mks_inj h4]
theorem plits_inj {n m : Nat} {p q : Pl} (hp : p.fine) (hq : q.fine) : plits n p = plits m q ↔ (n = m ∧ p.shut = q.shut ∧ p.nms = q.nms ∧ p.mks = q.mks) := by
  constructor
  · intro h
    unfold plits at h
    simp only [List.cons.injEq, Lit.bool.injEq, Lit.int.injEq, true_and] at h
    obtain ⟨h1, h2, h3⟩ := h
    have h4 := List.append_inj h3 (by simp [hp.nine, hq.nine])
    exact ⟨by omega, h1, nms_inj h4.1, mks_inj h4.2⟩
  · rintro ⟨rfl, h1, h2, h3⟩
    unfold plits
    rw [h1, h2, h3]
theorem eqg_plain (op : BinOp) (x y : Operand) (xs ys : Array Value) (w : World) : (eqGuard op 63 x y (.agg xs) (.agg ys)).run Tryz.prog w = .ok () w := run_eqGuard_agg w op 63 x y xs ys (by kernel_rfl)
theorem eql_plain (n m : Nat) (p q : Pl) (hn : n ≤ 64) (hm : m ≤ 64) (hp : p.fine) (hq : q.fine) (w : World) : (binOp .eql 63 (.agg (plc n p).toArray) (.agg (plc m q).toArray)).run Tryz.prog w = .ok (.bool (samePl n p m q)) w := by
  have hk : Tryz.prog.keyTypeAt 10 63 = true := by kernel_rfl
  have e := run_equalIn_deep 9990 10 63 hk
  have fx : ∀ n p, Pl.fine p → Value.formed Tryz.prog 63 (.agg (plc n p).toArray) = true := fun n p h => by
    unfold Value.formed
    rw [Tryz.underlying63, cellsOfP]
    simp [plc, mcells_len, h.nine, h.five]
  obtain ⟨r, hr, hi⟩ := e w 4 4 (.agg (plc n p).toArray) (.agg (plc m q).toArray) (plits n p) (plits m q) (fx n p hp) (fx m q hq) (key_pl 0 n p hn hp) (key_pl 0 m q hm hq)
  rw [run_eql_struct, hr]
  simp only [Result.andThen_ok]
  rw [plits_inj hp hq, ← samePl_iff] at hi
  rw [Bool.eq_iff_iff.2 hi]
theorem samePl_yes {n m : Nat} {p q : Pl} (h : samePl n p m q = true) : n = m ∧ p = q := by
  obtain ⟨h0, h1, h2, h3⟩ := samePl_iff.1 h
  refine ⟨h0, ?_⟩
  cases p
  cases q
  simp_all
theorem samePl_refl (n : Nat) (p : Pl) : samePl n p n p = true := samePl_iff.2 ⟨rfl, rfl, rfl, rfl⟩
end Go.Proofs.YtbcggjacjfcldaaGreatDoor
