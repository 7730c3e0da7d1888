/-
  == of what two books hold beside their cards.
-/
import Derived.Test.YtjjldjmcbmkkdaaB4
import Derived.DeepKeys
import Derived.ChangeKeysEq
namespace Go.Proofs.Ytjjldjmcbmkkdaa
open Go.RowKit

/-- What a book holds is small. -/
structure Pl.fine (p : Pl) : Prop where
  nine : p.nms.length = 9
  five : p.mks.length = 5
  nms : ∀ s ∈ p.nms, s.size ≤ 20
  mks : ∀ m ∈ p.mks, 0 ≤ m.mi ∧ m.mi ≤ 4 ∧ -9 ≤ m.po ∧ m.po ≤ 9 ∧ -9 ≤ m.he ∧ m.he ≤ 9 ∧ m.nm.size ≤ 20
def mlits (m : Mk) : List Lit := [.int .u8 m.mi, .string m.nm.data.toList, .int .i64 m.po, .int .i64 m.he]
def plits (n : Nat) (p : Pl) : List Lit := .bool true :: .bool p.shut :: .int .i64 (n : Int) :: (p.nms.map (fun s => Lit.string s.data.toList) ++ (p.mks.map mlits).flatten)
theorem cellsOf9 : Try.prog.cellsOf 9 = 1 := by kernel_rfl
theorem cellsOf3 : Try.prog.cellsOf 3 = 1 := by kernel_rfl
theorem cellsOf4 : Try.prog.cellsOf 4 = 1 := by kernel_rfl
theorem cellsOfMk : Try.prog.cellsOf 48 = 1 := by kernel_rfl
theorem cellsOfMI : Try.prog.cellsOf 50 = 4 := by kernel_rfl
theorem keyLits_struct {P : Program} {t : TypeId} {fs : Array Field} (d : Nat) (cs : List Value) (hu : P.underlying t = some (.struct fs)) (hl : cs.length = P.cellsOf t) (hf : fs.all (·.name != "_") = true) : P.keyLits (d + 1) t cs = (fs.toList.mapM fun f => P.keyLits d f.type ((cs.drop f.offset).take (P.cellsOf f.type))).map List.flatten := by
  conv => lhs; unfold Program.keyLits
  simp only [hu]
  rw [if_pos ⟨hl, hf⟩]
theorem keyLits_array {P : Program} {t e : TypeId} {n : Nat} (d : Nat) (cs : List Value) (hu : P.underlying t = some (.array n e)) (hl : cs.length = P.cellsOf t) : P.keyLits (d + 1) t cs = ((List.range n).mapM fun i => P.keyLits d e ((cs.drop (i * P.cellsOf e)).take (P.cellsOf e))).map List.flatten := by
  conv => lhs; unfold Program.keyLits
  simp only [hu]
  rw [if_pos hl]
theorem key_str (d : Nat) (s : ByteArray) (h : s.size ≤ 20) : Try.prog.keyLits (d + 1) 9 [.string s] = some [.string s.data.toList] := by
  simp only [Program.keyLits, Try.underlying9]
  rw [if_pos (by unfold maxLen; omega)]
theorem key_int (d : Nat) (n : Int) (h : -9223372036854775808 ≤ n ∧ n ≤ 9223372036854775807) : Try.prog.keyLits (d + 1) 3 [.int .i64 n] = some [.int .i64 n] := by
  simp only [Program.keyLits, Try.underlying3]
  have h1 : IntKind.i64.min = -9223372036854775808 := rfl
  have h2 : IntKind.i64.max = 9223372036854775807 := rfl
  rw [if_pos (by simp [Lit.wf, h1, h2]; omega)]
theorem key_mark (d : Nat) (n : Int) (h : 0 ≤ n ∧ n ≤ 255) : Try.prog.keyLits (d + 1) 48 [.int .u8 n] = some [.int .u8 n] := by
  simp only [Program.keyLits, Try.underlying48]
  have h1 : IntKind.u8.min = 0 := rfl
  have h2 : IntKind.u8.max = 255 := rfl
  rw [if_pos (by simp [Lit.wf, h1, h2]; omega)]
theorem key_bool (d : Nat) (b : Bool) : Try.prog.keyLits (d + 1) 4 [.bool b] = some [.bool b] := by
  simp only [Program.keyLits, Try.underlying4]
theorem key_mi (d : Nat) (m : Mk) (h : 0 ≤ m.mi ∧ m.mi ≤ 4 ∧ -9 ≤ m.po ∧ m.po ≤ 9 ∧ -9 ≤ m.he ∧ m.he ≤ 9 ∧ m.nm.size ≤ 20) : Try.prog.keyLits (d + 1 + 1) 50 (mvs m) = some (mlits m) := by
  have k0 := key_mark d m.mi (by omega)
  have k1 := key_str d m.nm (by omega)
  have k2 := key_int d m.po (by omega)
  have k3 := key_int d m.he (by omega)
  unfold mvs mlits
  rw [keyLits_struct (d + 1) _ Try.underlying50 (by rw [cellsOfMI]; rfl) (by kernel_rfl)]
  simp [ cellsOfMk, cellsOf9, cellsOf3, k0, k1, k2, k3, List.mapM_cons]
theorem nine_of' {α : Type} {X : List α} (h : X.length = 9) : ∃ a b c d e f g i j, X = [a, b, c, d, e, f, g, i, j] := by
  match X, h with
  | [a, b, c, d, e, f, g, i, j], _ => exact ⟨a, b, c, d, e, f, g, i, j, rfl⟩
theorem five_of {α : Type} {X : List α} (h : X.length = 5) : ∃ a b c d e, X = [a, b, c, d, e] := by
  match X, h with
  | [a, b, c, d, e], _ => exact ⟨a, b, c, d, e, rfl⟩
def sameMks : List Mk → List Mk → Bool
  | [], [] => true
  | a :: r, b :: s => decide (a.mi = b.mi ∧ a.nm = b.nm ∧ a.po = b.po ∧ a.he = b.he) && sameMks r s
  | _, _ => false
theorem sameMks_iff : ∀ {a b : List Mk}, sameMks a b = true ↔ a = b
  | [], [] => by simp [sameMks]
  | [], _ :: _ => by simp [sameMks]
  | _ :: _, [] => by simp [sameMks]
  | ⟨a0, a1, a2, a3⟩ :: r, ⟨b0, b1, b2, b3⟩ :: s => by
    simp only [sameMks, Bool.and_eq_true, decide_eq_true_eq, sameMks_iff (a := r) (b := s), List.cons.injEq, Mk.mk.injEq]
def samePl (n : Nat) (p : Pl) (m : Nat) (q : Pl) : Bool := decide (n = m ∧ p.shut = q.shut ∧ p.nms = q.nms) && sameMks p.mks q.mks
theorem samePl_iff {n m : Nat} {p q : Pl} : samePl n p m q = true ↔ (n = m ∧ p.shut = q.shut ∧ p.nms = q.nms ∧ p.mks = q.mks) := by
  unfold samePl
  rw [Bool.and_eq_true, decide_eq_true_eq, sameMks_iff]
  constructor
  · rintro ⟨⟨h1, h2, h3⟩, h4⟩; exact ⟨h1, h2, h3, h4⟩
  · rintro ⟨h1, h2, h3, h4⟩; exact ⟨⟨h1, h2, h3⟩, h4⟩
theorem str_inj {s t : ByteArray} (h : Lit.string s.data.toList = Lit.string t.data.toList) : s = t := by
  injection h with h
  exact bytes_inj (by rw [Lib.toList_data, Lib.toList_data, h])
theorem nms_inj : ∀ {a b : List ByteArray}, (a.map fun s => Lit.string s.data.toList) = (b.map fun s => Lit.string s.data.toList) → a = b
  | [], [], _ => rfl
  | [], _ :: _, h => by simp at h
  | _ :: _, [], h => by simp at h
  | x :: r, y :: s, h => by
    simp only [List.map_cons, List.cons.injEq] at h
    rw [str_inj h.1, nms_inj h.2]
theorem mks_inj : ∀ {a b : List Mk}, (a.map mlits).flatten = (b.map mlits).flatten → a = b
  | [], [], _ => rfl
  | [], _ :: _, h => by simp [mlits] at h
  | _ :: _, [], h => by simp [mlits] at h
  | ⟨a0, a1, a2, a3⟩ :: r, ⟨b0, b1, b2, b3⟩ :: s, h => by
    simp only [List.map_cons, List.flatten_cons, mlits, List.cons_append, List.nil_append, List.cons.injEq, Lit.int.injEq, true_and] at h
    obtain ⟨h0, h1, h2, h3, h4⟩ := h
    rw [h0, str_inj h1, h2, h3, mks_inj h4]
theorem plits_inj {n m : Nat} {p q : Pl} (hp : p.fine) (hq : q.fine) : plits n p = plits m q ↔ (n = m ∧ p.shut = q.shut ∧ p.nms = q.nms ∧ p.mks = q.mks) := by
  constructor
  · intro h
    unfold plits at h
    simp only [List.cons.injEq, Lit.bool.injEq, Lit.int.injEq, true_and] at h
    obtain ⟨h1, h2, h3⟩ := h
    have h4 := List.append_inj h3 (by simp [hp.nine, hq.nine])
    exact ⟨by omega, h1, nms_inj h4.1, mks_inj h4.2⟩
  · rintro ⟨rfl, h1, h2, h3⟩
    unfold plits
    rw [h1, h2, h3]
theorem samePl_yes {n m : Nat} {p q : Pl} (h : samePl n p m q = true) : n = m ∧ p = q := by
  obtain ⟨h0, h1, h2, h3⟩ := samePl_iff.1 h
  refine ⟨h0, ?_⟩
  cases p
  cases q
  simp_all
theorem samePl_refl (n : Nat) (p : Pl) : samePl n p n p = true := samePl_iff.2 ⟨rfl, rfl, rfl, rfl⟩
end Go.Proofs.Ytjjldjmcbmkkdaa
