/-
  At: the card of a number.
  == of what two books hold beside their cards.
  slices.EqualFunc over two rows of cards; Same.
  A book as the laws see it, and what each call makes of it; the document's examples (awake).
-/
import Derived.Test.YtmemeloehgemcaaGreatV9
import Derived.Test.YtmemeloehgemcaaGreatB4
import Derived.DeepKeys
import Derived.ChangeKeysEq
import Derived.Deep.MidRow
namespace Go.Proofs.YtmemeloehgemcaaGreat
open Go.RowKit

def atIn (p : Pl) (es : List Ent) (n : Int) : Prop := p.shut = true ∧ 1 ≤ n ∧ n ≤ es.length
set_option maxRecDepth 100000 in
set_option maxHeartbeats 1000000 in
theorem at_no (v : Value) (n : Int) (w : World) (h : NoBk w v) : Calls Tryz.prog 58 #[v, .int .i64 n] w fun e w' => e = .returned (.tuple #[cv Hd.none (.slice none 0 0), .int .i64 1]) ∧ w.grownBy w' none := by
  obtain ⟨W1, hW1⟩ : ∃ W1, W1 = w.alloc (.cells (ccs Hd.none (.slice none 0 0)) 88) := ⟨_, rfl⟩
  have HG1 : Hid (w.grownBy W1 none) := by rw [hW1]; exact World.grownBy_alloc _ _ none
  have HC1 : Hid (CAt W1 w.heap.size Hd.none (.slice none 0 0)) := by rw [hW1]; exact alloc_at w _ _
  have H : Hid (NoBk W1 v) := h.keep HG1.out
  obtain ⟨z0, z1, z2, z3, z4, z5, z6, z7, z8⟩ := HC1.out.cells
  have zf := fun i => HC1.out.free i
  unfold ccs Hd.none at hW1
  simp only [Hd.none] at z0 z1 z2 z3 z4 z5 z6 z7 z8
  clear h
  go_enter Tryz.func58, Tryz.ntmps58
  go_upto_region 1 with fail
  rw [← hW1]
  clear hW1
  go_wp2_with (first | (go_at_call 60; refine (isBook_no _ _ H.out).mono ?_; rintro e w1 ⟨rfl, h1⟩; obtain rfl : W1 = w1 := h1.symm) | fail)
  refine bodyPost_ret (v := .tuple #[cv Hd.none (.slice none 0 0), .int .i64 1]) (by simp [results, Tryz.results58, go_sem, z0, z1, z2, z3, z4, z5, z6, z7, z8, cv, Hd.none]) rfl ⟨rfl, ?_⟩
  have := grown_own HG1.out (grown_s9 W1 w.heap.size 0 Hd.none (.slice none 0 0)) (fun x e => by cases e; exact Nat.le_refl _)
  unfold set9 Hd.none at this
  simp only [Nat.zero_add] at this
  exact this
set_option maxRecDepth 100000 in
set_option maxHeartbeats 1000000 in
theorem at_out (b : Nat) (es : List Ent) (p : Pl) (n : Int) (w : World) (hB : BkIn w b es p) (hn : ¬ atIn p es n) : Calls Tryz.prog 58 #[.pointer (some ⟨b, 0, none⟩), .int .i64 n] w fun e w' => e = .returned (.tuple #[cv Hd.none (.slice none 0 0), .int .i64 6]) ∧ w.grownBy w' none := by
  obtain ⟨W1, hW1⟩ : ∃ W1, W1 = w.alloc (.cells (ccs Hd.none (.slice none 0 0)) 88) := ⟨_, rfl⟩
  have HG1 : Hid (w.grownBy W1 none) := by rw [hW1]; exact World.grownBy_alloc _ _ none
  have HC1 : Hid (CAt W1 w.heap.size Hd.none (.slice none 0 0)) := by rw [hW1]; exact alloc_at w _ _
  have HB1 : Hid (BkIn W1 b es p) := hB.keep HG1.out
  have HF := isBook_yes b es.length p W1 HB1.out.flags
  have s1 := HB1.out.flags.shut
  have s2 := HB1.out.flags.count
  obtain ⟨z0, z1, z2, z3, z4, z5, z6, z7, z8⟩ := HC1.out.cells
  have zf := fun i => HC1.out.free i
  unfold ccs Hd.none at hW1
  simp only [Hd.none] at z0 z1 z2 z3 z4 z5 z6 z7 z8
  have LAST : Hid (w.grownBy (set9 W1 w.heap.size 0 Hd.none (.slice none 0 0)) none) := grown_own HG1.out (grown_s9 W1 w.heap.size 0 Hd.none (.slice none 0 0)) (fun x e => by cases e; exact Nat.le_refl _)
  unfold set9 Hd.none at LAST
  simp only [Nat.zero_add] at LAST
  unfold atIn at hn
  clear hB
  cases hs : p.shut with
  | false =>
    rw [hs] at s1
    clear hn
    go_enter Tryz.func58, Tryz.ntmps58
    go_upto_region 1 with fail
    rw [← hW1]
    clear hW1
    go_wp2_with (first | (go_at_call 60; refine HF.mono ?_; rintro e w1 ⟨rfl, h1⟩; obtain rfl : W1 = w1 := h1.symm) | fail)
    refine bodyPost_ret (v := .tuple #[cv Hd.none (.slice none 0 0), .int .i64 6]) (by simp [results, Tryz.results58, go_sem, z0, z1, z2, z3, z4, z5, z6, z7, z8, cv, Hd.none]) rfl ⟨rfl, LAST.out⟩
  | true =>
    rw [hs] at s1
    by_cases h1 : n < 1
    · clear hn
      go_enter Tryz.func58, Tryz.ntmps58
      go_upto_region 1 with fail
      rw [← hW1]
      clear hW1
      go_wp2_with (first | (go_at_call 60; refine HF.mono ?_; rintro e w1 ⟨rfl, h1⟩; obtain rfl : W1 = w1 := h1.symm) | fail)
      refine bodyPost_ret (v := .tuple #[cv Hd.none (.slice none 0 0), .int .i64 6]) (by simp [results, Tryz.results58, go_sem, z0, z1, z2, z3, z4, z5, z6, z7, z8, cv, Hd.none]) rfl ⟨rfl, LAST.out⟩
    · have h2 : (es.length : Int) < n := by
        have : ¬ (1 ≤ n ∧ n ≤ es.length) := fun h => hn ⟨hs, h⟩
        omega
      have h1' : 1 ≤ n := by omega
      clear hn h1
      go_enter Tryz.func58, Tryz.ntmps58
      go_upto_region 1 with fail
      rw [← hW1]
      clear hW1
      go_wp2_with (first | (go_at_call 60; refine HF.mono ?_; rintro e w1 ⟨rfl, h1⟩; obtain rfl : W1 = w1 := h1.symm) | fail)
      refine bodyPost_ret (v := .tuple #[cv Hd.none (.slice none 0 0), .int .i64 6]) (by simp [results, Tryz.results58, go_sem, z0, z1, z2, z3, z4, z5, z6, z7, z8, cv, Hd.none]) rfl ⟨rfl, LAST.out⟩
set_option maxRecDepth 100000 in
set_option maxHeartbeats 2000000 in
theorem at_in (ok : Nat → Prop) (b : Nat) (es : List Ent) (p : Pl) (m : Nat) (e0 : Ent) (w : World) (hB : BkIn w b es p) (hG : Good ok w es) (hs : p.shut = true) (he : es[m]? = some e0) (hl : e0.ps.length ≤ 4) : Calls Tryz.prog 58 #[.pointer (some ⟨b, 0, none⟩), .int .i64 ((m : Int) + 1)] w fun e w' => ∃ u, e = .returned (.tuple #[cv e0.h u, .int .i64 0]) ∧ POwn w' w.heap.size u e0.ps ∧ w.grownBy w' none := by
  obtain ⟨W1, hW1⟩ : ∃ W1, W1 = w.alloc (.cells (ccs Hd.none (.slice none 0 0)) 88) := ⟨_, rfl⟩
  have HG1 : Hid (w.grownBy W1 none) := by rw [hW1]; exact World.grownBy_alloc _ _ none
  have HC1 : Hid (CAt W1 w.heap.size Hd.none (.slice none 0 0)) := by rw [hW1]; exact alloc_at w _ _
  have hS1 : W1.heap.size = w.heap.size + 1 := by rw [hW1]; simp
  have HB1 : Hid (BkIn W1 b es p) := hB.keep HG1.out
  have HF := isBook_yes b es.length p W1 HB1.out.flags
  have s1 := HB1.out.flags.shut
  have s2 := HB1.out.flags.count
  rw [hs] at s1
  have hm : m < es.length := (List.getElem?_eq_some_iff.1 he).1
  have h64 := HB1.out.len
  have PS := (hG e0 (List.mem_of_getElem? he)).1.keep HG1.out
  have D := HB1.out.row m e0 he
  rw [Nat.zero_add] at D
  obtain ⟨hd, v, ps⟩ := e0
  simp only at PS hl D ⊢
  obtain ⟨a, c, rfl⟩ := PS.form
  obtain ⟨d0, d1, d2, d3, d4, d5, d6, d7, d8⟩ := D
  have HCP := ccopy_any hd (.slice a ps.length c) ps W1 PS (by omega)
  unfold cv at HCP ⊢
  unfold ccs Hd.none at hW1
  have q1 : 1 ≤ (m : Int) + 1 := by omega
  have q2 : (m : Int) + 1 ≤ (es.length : Int) := by omega
  have q3 : wrap64 ((m : Int) + 1 - 1) = (m : Int) := by unfold wrap64; omega
  have q4 : (0 : Int) ≤ (m : Int) := by omega
  have q5 : (m : Int) < 64 := by omega
  clear hB hG he hm h64 PS hl
  go_enter Tryz.func58, Tryz.ntmps58
  go_upto_region 1 with fail
  rw [← hW1]
  clear hW1
  go_wp2_with (first | (go_at_call 60; refine HF.mono ?_; rintro e w1 ⟨rfl, h1⟩; obtain rfl : W1 = w1 := h1.symm) | (go_at_call 105; refine HCP.mono ?_; rintro e w2 ⟨u, rfl, o2, g2⟩; obtain ⟨a2, k2, rfl⟩ := o2.at.form; have HO2 : Hid (POwn w2 W1.heap.size (.slice a2 ps.length k2) ps) := o2; have HG2 : Hid (w.grownBy w2 none) := grown_trans HG1.out g2; have C2 := HC1.out.keep g2; obtain ⟨z0, z1, z2, z3, z4, z5, z6, z7, z8⟩ := C2.cells; have zf := fun i => C2.free i; simp only [Hd.none] at z0 z1 z2 z3 z4 z5 z6 z7 z8; clear o2 C2 d0 d1 d2 d3 d4 d5 d6 d7 d8) | fail)
  refine bodyPost_ret (v := .tuple #[cv hd (.slice a2 ps.length k2), .int .i64 0]) (by simp [results, Tryz.results58, go_sem, z0, z1, z2, z3, z4, z5, z6, z7, z8, cv]) rfl ⟨.slice a2 ps.length k2, rfl, ?_, ?_⟩
  · have := (HO2.out.keep (grown_s9 w2 w.heap.size 0 hd (.slice a2 ps.length k2)) (fun x e => by cases e; omega)).big (show w.heap.size ≤ W1.heap.size by omega)
    unfold set9 at this
    simp only [Nat.zero_add] at this
    exact this
  · have := grown_own HG2.out (grown_s9 w2 w.heap.size 0 hd (.slice a2 ps.length k2)) (fun x e => by cases e; exact Nat.le_refl _)
    unfold set9 at this
    simp only [Nat.zero_add] at this
    exact this
end Go.Proofs.YtmemeloehgemcaaGreat
namespace Go.Proofs.YtmemeloehgemcaaGreat
open Go.RowKit

/-- What a book holds is small. -/
structure Pl.fine (p : Pl) : Prop where
  nine : p.nms.length = 9
  five : p.mks.length = 5
  nms : ∀ s ∈ p.nms, s.size ≤ 20
  mks : ∀ m ∈ p.mks, 0 ≤ m.mi ∧ m.mi ≤ 4 ∧ -9 ≤ m.po ∧ m.po ≤ 9 ∧ -9 ≤ m.he ∧ m.he ≤ 9 ∧ m.nm.size ≤ 20
def mlits (m : Mk) : List Lit := [.int .u8 m.mi, .string m.nm.data.toList, .int .i64 m.po, .int .i64 m.he]
def plits (n : Nat) (p : Pl) : List Lit := .bool true :: .bool p.shut :: .int .i64 (n : Int) :: (p.nms.map (fun s => Lit.string s.data.toList) ++ (p.mks.map mlits).flatten)
theorem cellsOf9 : Tryz.prog.cellsOf 9 = 1 := by kernel_rfl
theorem cellsOf3 : Tryz.prog.cellsOf 3 = 1 := by kernel_rfl
theorem cellsOf4 : Tryz.prog.cellsOf 4 = 1 := by kernel_rfl
theorem cellsOfMk : Tryz.prog.cellsOf 45 = 1 := by kernel_rfl
theorem cellsOfMI : Tryz.prog.cellsOf 92 = 4 := by kernel_rfl
theorem cellsOfN : Tryz.prog.cellsOf 90 = 9 := by kernel_rfl
theorem cellsOfM : Tryz.prog.cellsOf 93 = 20 := by kernel_rfl
theorem cellsOfP : Tryz.prog.cellsOf 95 = 32 := by kernel_rfl
theorem keyLits_struct {P : Program} {t : TypeId} {fs : Array Field} (d : Nat) (cs : List Value) (hu : P.underlying t = some (.struct fs)) (hl : cs.length = P.cellsOf t) (hf : fs.all (·.name != "_") = true) : P.keyLits (d + 1) t cs = (fs.toList.mapM fun f => P.keyLits d f.type ((cs.drop f.offset).take (P.cellsOf f.type))).map List.flatten := by
  conv => lhs; unfold Program.keyLits
  simp only [hu]
  rw [if_pos ⟨hl, hf⟩]
theorem keyLits_array {P : Program} {t e : TypeId} {n : Nat} (d : Nat) (cs : List Value) (hu : P.underlying t = some (.array n e)) (hl : cs.length = P.cellsOf t) : P.keyLits (d + 1) t cs = ((List.range n).mapM fun i => P.keyLits d e ((cs.drop (i * P.cellsOf e)).take (P.cellsOf e))).map List.flatten := by
  conv => lhs; unfold Program.keyLits
  simp only [hu]
  rw [if_pos hl]
theorem key_str (d : Nat) (s : ByteArray) (h : s.size ≤ 20) : Tryz.prog.keyLits (d + 1) 9 [.string s] = some [.string s.data.toList] := by
  simp only [Program.keyLits, Tryz.underlying9]
  rw [if_pos (by unfold maxLen; omega)]
theorem key_int (d : Nat) (n : Int) (h : -9223372036854775808 ≤ n ∧ n ≤ 9223372036854775807) : Tryz.prog.keyLits (d + 1) 3 [.int .i64 n] = some [.int .i64 n] := by
  simp only [Program.keyLits, Tryz.underlying3]
  have h1 : IntKind.i64.min = -9223372036854775808 := rfl
  have h2 : IntKind.i64.max = 9223372036854775807 := rfl
  rw [if_pos (by simp [Lit.wf, h1, h2]; omega)]
theorem key_mark (d : Nat) (n : Int) (h : 0 ≤ n ∧ n ≤ 255) : Tryz.prog.keyLits (d + 1) 45 [.int .u8 n] = some [.int .u8 n] := by
  simp only [Program.keyLits, Tryz.underlying45]
  have h1 : IntKind.u8.min = 0 := rfl
  have h2 : IntKind.u8.max = 255 := rfl
  rw [if_pos (by simp [Lit.wf, h1, h2]; omega)]
theorem key_bool (d : Nat) (b : Bool) : Tryz.prog.keyLits (d + 1) 4 [.bool b] = some [.bool b] := by
  simp only [Program.keyLits, Tryz.underlying4]
theorem key_mi (d : Nat) (m : Mk) (h : 0 ≤ m.mi ∧ m.mi ≤ 4 ∧ -9 ≤ m.po ∧ m.po ≤ 9 ∧ -9 ≤ m.he ∧ m.he ≤ 9 ∧ m.nm.size ≤ 20) : Tryz.prog.keyLits (d + 1 + 1) 92 (mvs m) = some (mlits m) := by
  have k0 := key_mark d m.mi (by omega)
  have k1 := key_str d m.nm (by omega)
  have k2 := key_int d m.po (by omega)
  have k3 := key_int d m.he (by omega)
  unfold mvs mlits
  rw [keyLits_struct (d + 1) _ Tryz.underlying92 (by rw [cellsOfMI]; rfl) (by kernel_rfl)]
  simp [ cellsOfMk, cellsOf9, cellsOf3, k0, k1, k2, k3, List.mapM_cons]
theorem nine_of' {α : Type} {X : List α} (h : X.length = 9) : ∃ a b c d e f g i j, X = [a, b, c, d, e, f, g, i, j] := by
  match X, h with
  | [a, b, c, d, e, f, g, i, j], _ => exact ⟨a, b, c, d, e, f, g, i, j, rfl⟩
theorem key_nms (d : Nat) (l : List ByteArray) (h9 : l.length = 9) (h : ∀ s ∈ l, s.size ≤ 20) : Tryz.prog.keyLits (d + 1 + 1) 90 (l.map Value.string) = some (l.map fun s => Lit.string s.data.toList) := by
  obtain ⟨a, b, c, e, f, g, i, j, k, rfl⟩ := nine_of' h9
  simp only [List.mem_cons, List.not_mem_nil, or_false, forall_eq_or_imp, forall_eq] at h
  obtain ⟨h0, h1, h2, h3, h4, h5, h6, h7, h8⟩ := h
  have k0 := key_str d a h0
  have k1 := key_str d b h1
  have k2 := key_str d c h2
  have k3 := key_str d e h3
  have k4 := key_str d f h4
  have k5 := key_str d g h5
  have k6 := key_str d i h6
  have k7 := key_str d j h7
  have k8 := key_str d k h8
  rw [keyLits_array (d + 1) _ Tryz.underlying90 (by rw [cellsOfN]; rfl)]
  simp [ cellsOf9, List.range, List.range.loop, List.mapM_cons, k0, k1, k2, k3, k4, k5, k6, k7, k8]
theorem five_of {α : Type} {X : List α} (h : X.length = 5) : ∃ a b c d e, X = [a, b, c, d, e] := by
  match X, h with
  | [a, b, c, d, e], _ => exact ⟨a, b, c, d, e, rfl⟩
theorem key_mks (d : Nat) (l : List Mk) (h5 : l.length = 5) (h : ∀ m ∈ l, 0 ≤ m.mi ∧ m.mi ≤ 4 ∧ -9 ≤ m.po ∧ m.po ≤ 9 ∧ -9 ≤ m.he ∧ m.he ≤ 9 ∧ m.nm.size ≤ 20) : Tryz.prog.keyLits (d + 1 + 1 + 1) 93 (mcells l) = some (l.map mlits).flatten := by
  have hl : (mcells l).length = Tryz.prog.cellsOf 93 := by rw [cellsOfM, mcells_len, h5]
  obtain ⟨a, b, c, e, f, rfl⟩ := five_of h5
  have k0 := key_mi d a (h a (by simp))
  have k1 := key_mi d b (h b (by simp))
  have k2 := key_mi d c (h c (by simp))
  have k3 := key_mi d e (h e (by simp))
  have k4 := key_mi d f (h f (by simp))
  unfold mvs at k0 k1 k2 k3 k4
  rw [keyLits_array (d + 1 + 1) _ Tryz.underlying93 hl]
  simp [cellsOfMI, List.range, List.range.loop, List.mapM_cons, mcells, mvs, k0, k1, k2, k3, k4]
theorem key_pl (d n : Nat) (p : Pl) (hn : n ≤ 64) (h : p.fine) : Tryz.prog.keyLits (d + 1 + 1 + 1 + 1) 95 (plc n p) = some (plits n p) := by
  have hl : (plc n p).length = Tryz.prog.cellsOf 95 := by
    rw [cellsOfP]
    unfold plc
    simp [mcells_len, h.nine, h.five]
  have k0 := key_bool (d + 1 + 1) true
  have k1 := key_bool (d + 1 + 1) p.shut
  have k2 := key_int (d + 1 + 1) (n : Int) (by omega)
  have k3 := key_nms (d + 1) p.nms h.nine h.nms
  have k4 := key_mks d p.mks h.five h.mks
  have t1 : (p.nms.map Value.string ++ mcells p.mks).take 9 = p.nms.map Value.string := by rw [List.take_append_of_le_length (by simp [h.nine]), List.take_of_length_le (by simp [h.nine])]
  have t2 : (p.nms.map Value.string ++ mcells p.mks).drop 9 = mcells p.mks := by
    rw [List.drop_append, List.drop_of_length_le (by simp [h.nine])]
    simp [h.nine]
  have t3 : (mcells p.mks).take 20 = mcells p.mks := List.take_of_length_le (by rw [mcells_len, h.five]; decide)
  rw [keyLits_struct (d + 1 + 1 + 1) _ Tryz.underlying95 hl (by kernel_rfl)]
  unfold plc plits
  simp [cellsOfN, cellsOfM, cellsOf3, cellsOf4, List.mapM_cons, k0, k1, k2, k3, k4, t1, t2, t3]
def sameMks : List Mk → List Mk → Bool
  | [], [] => true
  | a :: r, b :: s => decide (a.mi = b.mi ∧ a.nm = b.nm ∧ a.po = b.po ∧ a.he = b.he) && sameMks r s
  | _, _ => false
theorem sameMks_iff : ∀ {a b : List Mk}, sameMks a b = true ↔ a = b
  | [], [] => by simp [sameMks]
  | [], _ :: _ => by simp [sameMks]
  | _ :: _, [] => by simp [sameMks]
  | ⟨a0, a1, a2, a3⟩ :: r, ⟨b0, b1, b2, b3⟩ :: s => by
    simp only [sameMks, Bool.and_eq_true, decide_eq_true_eq, sameMks_iff (a := r) (b := s), List.cons.injEq, Mk.mk.injEq]
def samePl (n : Nat) (p : Pl) (m : Nat) (q : Pl) : Bool := decide (n = m ∧ p.shut = q.shut ∧ p.nms = q.nms) && sameMks p.mks q.mks
theorem samePl_iff {n m : Nat} {p q : Pl} : samePl n p m q = true ↔ (n = m ∧ p.shut = q.shut ∧ p.nms = q.nms ∧ p.mks = q.mks) := by
  unfold samePl
  rw [Bool.and_eq_true, decide_eq_true_eq, sameMks_iff]
  constructor
  · rintro ⟨⟨h1, h2, h3⟩, h4⟩; exact ⟨h1, h2, h3, h4⟩
  · rintro ⟨h1, h2, h3, h4⟩; exact ⟨⟨h1, h2, h3⟩, h4⟩
theorem str_inj {s t : ByteArray} (h : Lit.string s.data.toList = Lit.string t.data.toList) : s = t := by
  injection h with h
  exact bytes_inj (by rw [Lib.toList_data, Lib.toList_data, h])
theorem nms_inj : ∀ {a b : List ByteArray}, (a.map fun s => Lit.string s.data.toList) = (b.map fun s => Lit.string s.data.toList) → a = b
  | [], [], _ => rfl
  | [], _ :: _, h => by simp at h
  | _ :: _, [], h => by simp at h
  | x :: r, y :: s, h => by
    simp only [List.map_cons, List.cons.injEq] at h
    rw [str_inj h.1, nms_inj h.2]
theorem mks_inj : ∀ {a b : List Mk}, (a.map mlits).flatten = (b.map mlits).flatten → a = b
  | [], [], _ => rfl
  | [], _ :: _, h => by simp [mlits] at h
  | _ :: _, [], h => by simp [mlits] at h
  | ⟨a0, a1, a2, a3⟩ :: r, ⟨b0, b1, b2, b3⟩ :: s, h => by
    simp only [List.map_cons, List.flatten_cons, mlits, List.cons_append, List.nil_append, List.cons.injEq, Lit.int.injEq, true_and] at h
    obtain ⟨h0, h1, h2, h3, h4⟩ := h
    rw [h0, str_inj h1, h2, h3, mks_inj h4]
theorem plits_inj {n m : Nat} {p q : Pl} (hp : p.fine) (hq : q.fine) : plits n p = plits m q ↔ (n = m ∧ p.shut = q.shut ∧ p.nms = q.nms ∧ p.mks = q.mks) := by
  constructor
  · intro h
    unfold plits at h
    simp only [List.cons.injEq, Lit.bool.injEq, Lit.int.injEq, true_and] at h
    obtain ⟨h1, h2, h3⟩ := h
    have h4 := List.append_inj h3 (by simp [hp.nine, hq.nine])
    exact ⟨by omega, h1, nms_inj h4.1, mks_inj h4.2⟩
  · rintro ⟨rfl, h1, h2, h3⟩
    unfold plits
    rw [h1, h2, h3]
theorem eqg_plain (op : BinOp) (x y : Operand) (xs ys : Array Value) (w : World) : (eqGuard op 95 x y (.agg xs) (.agg ys)).run Tryz.prog w = .ok () w := run_eqGuard_agg w op 95 x y xs ys (by kernel_rfl)
theorem eql_plain (n m : Nat) (p q : Pl) (hn : n ≤ 64) (hm : m ≤ 64) (hp : p.fine) (hq : q.fine) (w : World) : (binOp .eql 95 (.agg (plc n p).toArray) (.agg (plc m q).toArray)).run Tryz.prog w = .ok (.bool (samePl n p m q)) w := by
  have hk : Tryz.prog.keyTypeAt 10 95 = true := by kernel_rfl
  have e := run_equalIn_deep 9990 10 95 hk
  have fx : ∀ n p, Pl.fine p → Value.formed Tryz.prog 95 (.agg (plc n p).toArray) = true := fun n p h => by
    unfold Value.formed
    rw [Tryz.underlying95, cellsOfP]
    simp [plc, mcells_len, h.nine, h.five]
  obtain ⟨r, hr, hi⟩ := e w 4 4 (.agg (plc n p).toArray) (.agg (plc m q).toArray) (plits n p) (plits m q) (fx n p hp) (fx m q hq) (key_pl 0 n p hn hp) (key_pl 0 m q hm hq)
  rw [run_eql_struct, hr]
  simp only [Result.andThen_ok]
  rw [plits_inj hp hq, ← samePl_iff] at hi
  rw [Bool.eq_iff_iff.2 hi]
theorem samePl_yes {n m : Nat} {p q : Pl} (h : samePl n p m q = true) : n = m ∧ p = q := by
  obtain ⟨h0, h1, h2, h3⟩ := samePl_iff.1 h
  refine ⟨h0, ?_⟩
  cases p
  cases q
  simp_all
theorem samePl_refl (n : Nat) (p : Pl) : samePl n p n p = true := samePl_iff.2 ⟨rfl, rfl, rfl, rfl⟩
end Go.Proofs.YtmemeloehgemcaaGreat
namespace Go.Proofs.YtmemeloehgemcaaGreat
open Go.RowKit

def sameE (a b : Ent) : Bool := sameHd a.h b.h && samePs a.ps b.ps
def sameEs : List Ent → List Ent → Bool
  | [], [] => true
  | a :: r, b :: s => sameE a b && sameEs r s
  | _, _ => false
theorem sameEs_len : ∀ {a b : List Ent}, ¬ a.length = b.length → sameEs a b = false
  | [], [], h => by simp at h
  | [], _ :: _, _ => rfl
  | _ :: _, [], _ => rfl
  | a :: r, b :: s, h => by
    simp only [sameEs, sameEs_len (a := r) (b := s) (by simpa using h), Bool.and_false]
theorem sameEs_drop {a b : List Ent} {k : Nat} {x y : Ent} (ha : a[k]? = some x) (hb : b[k]? = some y) : sameEs (a.drop k) (b.drop k) = (sameE x y && sameEs (a.drop (k + 1)) (b.drop (k + 1))) := by
  rw [List.drop_eq_getElem_cons (List.getElem?_eq_some_iff.1 ha).1, (List.getElem?_eq_some_iff.1 ha).2, List.drop_eq_getElem_cons (List.getElem?_eq_some_iff.1 hb).1, (List.getElem?_eq_some_iff.1 hb).2]
  rfl
def EqTo (es fs : List Ent) (k : Nat) (r : Bool) : Prop := sameEs (es.drop k) (fs.drop k) = r
theorem BkJ.range {w : World} {b : Nat} {es : List Ent} {junk : List Value} {p : Pl} (h : BkJ w b es junk p) : w.rangeAt b 576 (plc es.length p) := fun j v hv => by
  rw [h.tail, hv]
def TwoS (w0 : World) (b c : Nat) (es fs : List Ent) (p q : Pl) (j1 j2 : List Value) (w : World) : Prop := BkJ w b es j1 p ∧ BkJ w c fs j2 q ∧ w0.grownBy w none
theorem TwoS.keep {w0 w w' : World} {b c : Nat} {es fs : List Ent} {p q : Pl} {j1 j2 : List Value} (h : TwoS w0 b c es fs p q j1 j2 w) (g : w.grownBy w' none) : TwoS w0 b c es fs p q j1 j2 w' := ⟨h.1.keep g, h.2.1.keep g, grown_trans h.2.2 g⟩
theorem Flags.keep {w w' : World} {b n : Nat} {p : Pl} (h : Flags w b n p) (g : w.grownBy w' none) : Flags w' b n p := ⟨g.cell h.made (by simp), g.cell h.shut (by simp), g.cell h.count (by simp)⟩
theorem NoBk.form {w : World} {v : Value} (h : NoBk w v) : ∃ a, v = .pointer a := by
  rcases h with rfl | ⟨b, rfl, _⟩
  · exact ⟨_, rfl⟩
  · exact ⟨_, rfl⟩
end Go.Proofs.YtmemeloehgemcaaGreat
namespace Go.Proofs.YtmemeloehgemcaaGreat
open Go.RowKit

structure Book (ok : Nat → Prop) (w : World) (b : Nat) (es : List Ent) (p : Pl) : Prop where
  lies : BkIn w b es p
  good : Good ok w es
  srt : Srt es
  fine : p.fine
  may : ∀ e ∈ es, cchk e.cd = 0
theorem Book.keep {ok : Nat → Prop} {w w' : World} {b : Nat} {es : List Ent} {p : Pl} (h : Book ok w b es p) (g : w.grownBy w' none) : Book ok w' b es p := ⟨h.lies.keep g, h.good.keep g, h.srt, h.fine, h.may⟩
theorem Book.keepR {ok : Nat → Prop} {w w' : World} {b : Nat} {es : List Ent} {p : Pl} {r : Option Nat} (h : Book ok w b es p) (g : w.grownBy w' r) (hb : some b ≠ r) (hr : ∀ k, ok k → some k ≠ r) : Book ok w' b es p := ⟨h.lies.keepR g hb, h.good.keepR g hr, h.srt, h.fine, h.may⟩
theorem Book.parts {ok : Nat → Prop} {w : World} {b : Nat} {es : List Ent} {p : Pl} (h : Book ok w b es p) : ∀ e ∈ es, e.ps.length ≤ 4 := fun e he => (cchk_facts (h.may e he)).2.2.1
theorem Book.lt {ok : Nat → Prop} {w : World} {b : Nat} {es : List Ent} {p : Pl} (h : Book ok w b es p) : b < w.heap.size := by obtain ⟨j, J⟩ := h.lies; exact block_lt J.lies
theorem plNew_fine : plNew.fine := ⟨rfl, rfl, fun s hs => by simp [plNew] at hs; rw [hs]; decide, fun m hm => by simp [plNew] at hm; rw [hm]; decide⟩
theorem bnew (ok : Nat → Prop) (w : World) : Calls Tryz.prog 22 #[] w fun e w' => e = .returned (.pointer (some ⟨w.heap.size, 0, none⟩)) ∧ Book ok w' w.heap.size [] plNew ∧ w.grownBy w' none ∧ w'.heap.size = w.heap.size + 1 :=
  (new_any w).mono fun e w' ⟨h1, h2, h3, h4⟩ => ⟨h1, ⟨h2, fun e he => by simp at he, by unfold Srt; exact List.Pairwise.nil, plNew_fine, fun e he => by simp at he⟩, h3, h4⟩
theorem names_mem {es : List Ent} {e : Ent} (h : e ∈ es) : e.h.nm ∈ names es := List.mem_map.2 ⟨e, h, rfl⟩
theorem bcard (ok : Nat → Prop) (b : Nat) (es : List Ent) (p : Pl) (h : Hd) (v : Value) (ps : List Pt) (w : World) (B : Book ok w b es p) (hok : ¬ ok b) (hnew : ∀ k, w.heap.size ≤ k → ok k) (hp : PsAt w v ps) (hm : Small ps.length) : Calls Tryz.prog 41 #[.pointer (some ⟨b, 0, none⟩), cv h v] w fun e w' => ∃ u, e = .returned (.int .i64 (caE p es (h.with ps))) ∧ Book ok w' b (if caE p es (h.with ps) = 0 then ins es ⟨h, u, ps⟩ else es) p ∧ w.grownBy w' (some b) := by
  refine (card_yes ok b es p h v ps w B.lies B.good B.srt hok hp hm).mono ?_
  rintro e w' ⟨u, he, h1, h2, h3⟩
  have G2 := h2.mono (ok' := ok) (fun k hk => hk.elim id (hnew k))
  refine ⟨u, he, ?_, h3⟩
  by_cases h0 : caE p es (h.with ps) = 0
  · rw [if_pos h0] at h1 G2 ⊢
    have hc : cchk (h.with ps) = 0 ∧ pos (names es) h.nm < 0 := by
      unfold caE at h0
      split at h0
      · omega
      · split at h0
        · exact absurd h0 (by assumption)
        · rename_i hq
          split at h0
          · omega
          · rename_i hz
            exact ⟨by simpa using hq, Int.not_le.1 hz⟩
    refine ⟨h1, G2, ins_srt es _ B.srt (fun x hx e => pos_no hc.2 (e ▸ names_mem hx)), B.fine, fun x hx => ?_⟩
    rcases (ins_mem es _ x).1 hx with rfl | hx
    · exact hc.1
    · exact B.may x hx
  · rw [if_neg h0] at h1 G2 ⊢
    exact ⟨h1, G2, B.srt, B.fine, B.may⟩
theorem trP_fine {p : Pl} (h : p.fine) (t : Int) (s : ByteArray) : (trP p t s).fine := by
  unfold trP
  by_cases h0 : trE p t s = 0
  · rw [if_pos h0]
    have hn : s.size ≤ 20 := by
      unfold trE at h0
      split at h0
      · omega
      · split at h0
        · omega
        · split at h0
          · omega
          · rename_i hz
            have hn : nameOk s.data.toList = true := by cases hq : nameOk s.data.toList with
              | true => rfl
              | false => exact absurd hq hz
            rw [Lib.size_eq]; exact (name_facts hn).2
    refine ⟨by simpa using h.nine, h.five, fun x hx => ?_, h.mks⟩
    rcases List.mem_or_eq_of_mem_set hx with hx | rfl
    · exact h.nms x hx
    · exact hn
  · rw [if_neg h0]; exact h
theorem maP_fine {p : Pl} (h : p.fine) (m : Mk) : (maP p m).fine := by
  unfold maP
  by_cases h0 : maE p m = 0
  · rw [if_pos h0]
    have hn : (0 ≤ m.mi ∧ m.mi ≤ 4 ∧ -9 ≤ m.po ∧ m.po ≤ 9 ∧ -9 ≤ m.he ∧ m.he ≤ 9) ∧ m.nm.size ≤ 20 := by
      unfold maE at h0
      split at h0
      · omega
      · split at h0
        · omega
        · rename_i hr
          split at h0
          · omega
          · rename_i hz
            have hn : nameOk m.nm.data.toList = true := by cases hq : nameOk m.nm.data.toList with
              | true => rfl
              | false => exact absurd hq hz
            have k1 : fF m.po = true := by cases hq : fF m.po with
              | true => rfl
              | false => exact absurd (Or.inr (Or.inr (Or.inl hq))) hr
            have k2 : fF m.he = true := by cases hq : fF m.he with
              | true => rfl
              | false => exact absurd (Or.inr (Or.inr (Or.inr hq))) hr
            simp only [fF, Bool.and_eq_true, decide_eq_true_eq] at k1 k2
            refine ⟨⟨by omega, by omega, k1.1, k1.2, k2.1, k2.2⟩, ?_⟩
            rw [Lib.size_eq]; exact (name_facts hn).2
    refine ⟨h.nine, by simpa using h.five, h.nms, fun x hx => ?_⟩
    rcases List.mem_or_eq_of_mem_set hx with hx | rfl
    · exact h.mks x hx
    · exact ⟨hn.1.1, hn.1.2.1, hn.1.2.2.1, hn.1.2.2.2.1, hn.1.2.2.2.2.1, hn.1.2.2.2.2.2, hn.2⟩
  · rw [if_neg h0]; exact h
theorem bmark (ok : Nat → Prop) (b : Nat) (es : List Ent) (p : Pl) (m : Mk) (w : World) (B : Book ok w b es p) (hok : ¬ ok b) : Calls Tryz.prog 44 #[.pointer (some ⟨b, 0, none⟩), mv m] w fun e w' => e = .returned (.int .i64 (maE p m)) ∧ Book ok w' b es (maP p m) ∧ w.grownBy w' (some b) :=
  (mark_yes b es p m w B.lies).mono fun e w' ⟨h1, h2, h3⟩ => ⟨h1, ⟨h2, B.good.keepR h3 (fun k hk e => by cases e; exact hok hk), B.srt, maP_fine B.fine m, B.may⟩, h3⟩
theorem sealP_fine {p : Pl} (h : p.fine) (es : List Ent) : (sealP p es).fine := by
  unfold sealP
  split
  · exact ⟨h.nine, h.five, h.nms, h.mks⟩
  · exact h
theorem bseal (ok : Nat → Prop) (b : Nat) (es : List Ent) (p : Pl) (w : World) (B : Book ok w b es p) (hok : ¬ ok b) : Calls Tryz.prog 46 #[.pointer (some ⟨b, 0, none⟩)] w fun e w' => e = .returned (.int .i64 (sealE p es)) ∧ Book ok w' b es (sealP p es) ∧ w.grownBy w' (some b) :=
  (seal_yes ok b es p w B.lies B.good B.parts).mono fun e w' ⟨h1, h2, h3⟩ => ⟨h1, ⟨h2, B.good.keepR h3 (fun k hk e => by cases e; exact hok hk), B.srt, sealP_fine B.fine es, B.may⟩, h3⟩
/-- The cards of the examples. -/
def rockH : Hd := ⟨⟨#[114, 111, 99, 107]⟩, 2, 1, 1, 0, 3, 0, false⟩
def axeH : Hd := ⟨⟨#[97, 120, 101]⟩, 1, 3, 2, 0, 0, 0, false⟩
def axeP : Pt := ⟨3, 7, 1, 1, 0, 0, 0, ⟨#[114, 111, 99, 107]⟩⟩
/-- What holds of the examples' books. -/
theorem exA (u : Value) : ins [] ⟨axeH, u, [axeP]⟩ = [⟨axeH, u, [axeP]⟩] := rfl
theorem exAR (u v : Value) : ins [⟨axeH, u, [axeP]⟩] ⟨rockH, v, []⟩ = [⟨axeH, u, [axeP]⟩, ⟨rockH, v, []⟩] := by
  rw [ins_cons, if_pos (by show ord axeH rockH < 0; decide +kernel)]
  rfl
theorem ex1 : caE plNew [] (axeH.with [axeP]) = 0 := by decide +kernel
theorem ex2 (u : Value) : caE plNew [⟨axeH, u, [axeP]⟩] (rockH.with []) = 0 := by
  show (if plNew.shut = true then (7 : Int) else if ¬ cchk (rockH.with []) = 0 then cchk (rockH.with []) else if 0 ≤ pos [axeH.nm] rockH.nm then 5 else if (1 : Nat) = 64 then 14 else 0) = 0
  decide +kernel
theorem ex3 (u v : Value) : caE plNew [⟨axeH, u, [axeP]⟩, ⟨rockH, v, []⟩] (rockH.with []) = 5 := by
  show (if plNew.shut = true then (7 : Int) else if ¬ cchk (rockH.with []) = 0 then cchk (rockH.with []) else if 0 ≤ pos [axeH.nm, rockH.nm] rockH.nm then 5 else if (2 : Nat) = 64 then 14 else 0) = 5
  decide +kernel
theorem ex4 (u v : Value) : pos (names [⟨axeH, u, [axeP]⟩, ⟨rockH, v, []⟩]) ⟨#[97, 120, 101]⟩ = 0 := by
  show pos [axeH.nm, rockH.nm] ⟨#[97, 120, 101]⟩ = 0
  decide +kernel
theorem ex4r (u v : Value) : pos (names [⟨axeH, u, [axeP]⟩, ⟨rockH, v, []⟩]) ⟨#[114, 111, 99, 107]⟩ = 1 := by
  show pos [axeH.nm, rockH.nm] ⟨#[114, 111, 99, 107]⟩ = 1
  decide +kernel
theorem ex5 (u v : Value) : sealE plNew [⟨axeH, u, [axeP]⟩, ⟨rockH, v, []⟩] = 0 := by
  have c : callE [⟨axeH, u, [axeP]⟩, ⟨rockH, v, []⟩] axeP = 0 := by
    unfold callE
    rw [if_neg (by decide)]
    show (if pos (names [⟨axeH, u, [axeP]⟩, ⟨rockH, v, []⟩]) ⟨#[114, 111, 99, 107]⟩ < 0 then (6 : Int) else if kdAt [⟨axeH, u, [axeP]⟩, ⟨rockH, v, []⟩] (pos (names [⟨axeH, u, [axeP]⟩, ⟨rockH, v, []⟩]) ⟨#[114, 111, 99, 107]⟩).toNat = 2 then 8 else 0) = 0
    rw [ex4r]
    rfl
  unfold sealE
  rw [if_neg (by decide)]
  simp [sealL, callsE, c]
def plShut : Pl := { plNew with shut := true }
theorem ex6 (u v : Value) : sealP plNew [⟨axeH, u, [axeP]⟩, ⟨rockH, v, []⟩] = plShut := if_pos (ex5 u v)
theorem ex7 (es : List Ent) (c : Cd) : caE plShut es c = 7 := if_pos rfl
end Go.Proofs.YtmemeloehgemcaaGreat
