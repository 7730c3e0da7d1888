/-
  Lists of parts: where one lies, what is read of it; what the kit's SameParts, CopyParts, LentParts and KeptParts do with any list. What is told lies in memory of its own.
-/
import Derived.Test.YtpoicbefemjckaaEq
import Derived.OwnWalk
import Derived.Maps.AppendAt
import Derived.Laws.AppendOwnNone
namespace Go.Proofs.Ytpoicbefemjckaa
open Go.RowKit

/-- The eight cells of a part, and those of a list. -/
def pvs (p : Pt) : List Value := [.int .u8 p.wn, .int .u8 p.vb, .int .u8 p.wm, .int .i64 p.ct, .int .u8 p.su, .int .u8 p.tr, .int .u8 p.mr, .string p.nm]
def pcells : List Pt → List Value
  | [] => []
  | p :: r => pvs p ++ pcells r
theorem pcells_len : ∀ ps : List Pt, (pcells ps).length = ps.length * 8
  | [] => rfl
  | p :: r => by simp only [pcells, List.length_append, pcells_len r, List.length_cons]; simp only [pvs, List.length_cons, List.length_nil]; omega
theorem pcells_app : ∀ a b : List Pt, pcells (a ++ b) = pcells a ++ pcells b
  | [], b => rfl
  | p :: r, b => by simp only [List.cons_append, pcells, pcells_app r b, List.append_assoc]
theorem pcells_at : ∀ (ps : List Pt) (j : Nat) (p : Pt), ps[j]? = some p → ∀ k, k < 8 → (pcells ps)[j * 8 + k]? = (pvs p)[k]?
  | [], j, p, h, k, _ => by simp at h
  | q :: r, 0, p, h, k, hk => by
    obtain rfl : q = p := by simpa using h
    simp only [pcells, Nat.zero_mul, Nat.zero_add]
    exact List.getElem?_append_left (by simpa [pvs] using hk)
  | q :: r, j + 1, p, h, k, hk => by
    have ih := pcells_at r j p (by simpa using h) k hk
    simp only [pcells]
    rw [List.getElem?_append_right (by simp [pvs]; omega), ← ih]
    congr 1
    simp [pvs]
    omega
theorem pcells_one : ∀ (ps : List Pt), ∀ u ∈ pcells ps, u.oneCell' = true
  | [], u, h => by simp [pcells] at h
  | p :: r, u, h => by
    rcases List.mem_append.1 h with h | h
    · simp only [pvs, List.mem_cons, List.not_mem_nil, or_false] at h
      rcases h with rfl | rfl | rfl | rfl | rfl | rfl | rfl | rfl <;> rfl
    · exact pcells_one r u h

/-- Where a list of parts lies. -/
def PsAt (w : World) (v : Value) (ps : List Pt) : Prop := (v = .slice none 0 0 ∧ ps = []) ∨ ∃ ad cap, v = .slice (some ad) ps.length cap ∧ ps.length ≤ cap ∧ ∀ j u, (pcells ps)[j]? = some u → w.cell? (ad.add j) = some u
theorem addr_plain {w : World} {x : Addr} {v : Value} (h : w.cell? x = some v) : x = ⟨x.block, x.off, none⟩ := by
  cases x with
  | mk b o s =>
    cases s with
    | none => rfl
    | some s =>
      exfalso
      unfold World.cell? at h
      split at h <;> simp_all
theorem add_plain (b o j : Nat) : (⟨b, o, none⟩ : Addr).add j = ⟨b, o + j, none⟩ := by unfold Addr.add; split <;> simp_all
theorem PsAt.keep {w w' : World} {v : Value} {ps : List Pt} (h : PsAt w v ps) (g : w.grownBy w' none) : PsAt w' v ps := by
  rcases h with h | ⟨ad, cap, e, hc, h⟩
  · exact Or.inl h
  · exact Or.inr ⟨ad, cap, e, hc, fun j u hu => g.cell (h j u hu) (by simp)⟩
theorem PsAt.form {w : World} {v : Value} {ps : List Pt} (h : PsAt w v ps) : ∃ a cap, v = .slice a ps.length cap := by
  rcases h with ⟨rfl, rfl⟩ | ⟨ad, cap, e, _, _⟩
  · exact ⟨none, 0, rfl⟩
  · exact ⟨some ad, cap, e⟩
theorem PsAt.nil {w : World} {a : Option Addr} {n : Nat} (h : PsAt w (.slice a 0 n) []) (w' : World) : PsAt w' (.slice a 0 n) [] := by
  rcases h with h | ⟨ad, cap, e, hc, _⟩
  · exact Or.inl h
  · exact Or.inr ⟨ad, cap, e, hc, fun j u hu => by simp [pcells] at hu⟩
/-- The cells of one part. -/
structure P8 (w : World) (g o : Nat) (p : Pt) : Prop where
  c0 : w.cell? ⟨g, o, none⟩ = some (.int .u8 p.wn)
  c1 : w.cell? ⟨g, o + 1, none⟩ = some (.int .u8 p.vb)
  c2 : w.cell? ⟨g, o + 2, none⟩ = some (.int .u8 p.wm)
  c3 : w.cell? ⟨g, o + 3, none⟩ = some (.int .i64 p.ct)
  c4 : w.cell? ⟨g, o + 4, none⟩ = some (.int .u8 p.su)
  c5 : w.cell? ⟨g, o + 5, none⟩ = some (.int .u8 p.tr)
  c6 : w.cell? ⟨g, o + 6, none⟩ = some (.int .u8 p.mr)
  c7 : w.cell? ⟨g, o + 7, none⟩ = some (.string p.nm)
theorem P8.keep {w w' : World} {g o : Nat} {p : Pt} (h : P8 w g o p) (k : w.grownBy w' none) : P8 w' g o p :=
  ⟨k.cell h.c0 (by simp), k.cell h.c1 (by simp), k.cell h.c2 (by simp), k.cell h.c3 (by simp), k.cell h.c4 (by simp), k.cell h.c5 (by simp), k.cell h.c6 (by simp), k.cell h.c7 (by simp)⟩
theorem PsAt.part {w : World} {v : Value} {ps : List Pt} (h : PsAt w v ps) (h0 : 0 < ps.length) : ∃ g off cap, v = .slice (some ⟨g, off, none⟩) ps.length cap ∧ ∀ j p, ps[j]? = some p → P8 w g (off + j * 8) p := by
  rcases h with ⟨_, rfl⟩ | ⟨ad, cap, e, _, h⟩
  · simp at h0
  · obtain ⟨q, hq⟩ : ∃ q, ps[0]? = some q := ⟨ps[0], List.getElem?_eq_getElem h0⟩
    have k0 := h 0 _ (by have := pcells_at ps 0 q hq 0 (by omega); simpa [pvs] using this)
    have ea : ad.add 0 = ad := by simp [Addr.add]
    rw [ea] at k0
    have ep := addr_plain k0
    refine ⟨ad.block, ad.off, cap, by rw [← ep]; exact e, fun j p hp => ?_⟩
    have at_ : ∀ k u, k < 8 → (pvs p)[k]? = some u → w.cell? ⟨ad.block, ad.off + (j * 8 + k), none⟩ = some u := fun k u hk hu => by
      have := h (j * 8 + k) u (by rw [pcells_at ps j p hp k hk]; exact hu)
      rw [ep, add_plain] at this
      exact this
    exact ⟨at_ 0 _ (by omega) rfl, at_ 1 _ (by omega) rfl, at_ 2 _ (by omega) rfl, at_ 3 _ (by omega) rfl, at_ 4 _ (by omega) rfl, at_ 5 _ (by omega) rfl, at_ 6 _ (by omega) rfl, at_ 7 _ (by omega) rfl⟩

/-- A list that the call has made itself. -/
def POwn (w : World) (base : Nat) (v : Value) (ps : List Pt) : Prop := w.ownsRow base 81 8 v ps.length (pcells ps)
theorem POwn.nil (w : World) (base : Nat) : POwn w base (.slice none 0 0) [] := ⟨rfl, Or.inl ⟨rfl, rfl⟩⟩
theorem POwn.keep {w w' : World} {base : Nat} {v : Value} {l : List Pt} {r : Option Nat} (h : POwn w base v l) (hg : w.grownBy w' r) (hr : ∀ x, r = some x → x < base) : POwn w' base v l := by
  obtain ⟨h1, h2⟩ := h
  refine ⟨h1, ?_⟩
  rcases h2 with h2 | ⟨g, cap, cur, e, hb, hh, h3⟩
  · exact Or.inl h2
  · exact Or.inr ⟨g, cap, cur, e, hb, grown_keep hg hh (fun e => by have := hr g e.symm; omega), h3⟩
theorem POwn.at {w : World} {base : Nat} {v : Value} {ps : List Pt} (h : POwn w base v ps) : PsAt w v ps := by
  obtain ⟨h1, ⟨rfl, h2⟩ | ⟨g, cap, cur, e, hb, hh, hn, hc, hz, ht⟩⟩ := h
  · exact Or.inl ⟨rfl, List.eq_nil_of_length_eq_zero h2⟩
  · refine Or.inr ⟨⟨g, 0, none⟩, cap, e, hn, fun j u hu => ?_⟩
    rw [add_plain, Nat.zero_add]
    have hj : j < (pcells ps).length := (List.getElem?_eq_some_iff.1 hu).1
    rw [← ht, List.getElem?_take_of_lt (by rw [pcells_len] at hj; exact hj)] at hu
    simp only [World.cell?, hh]
    simpa using hu
theorem POwn.block {w : World} {base : Nat} {v : Value} {l : List Pt} (h : POwn w base v l) : ∀ k, v.ownBlock = some k → base ≤ k := by
  obtain ⟨_, ⟨rfl, _⟩ | ⟨g, cap, cur, rfl, hb, _⟩⟩ := h
  · intro k e; cases e
  · intro k e
    cases e
    exact hb
theorem POwn.big {w : World} {base : Nat} {v : Value} {l : List Pt} (h : POwn w base v l) {b' : Nat} (hb : b' ≤ base) : POwn w b' v l := by
  obtain ⟨h1, h2⟩ := h
  refine ⟨h1, ?_⟩
  rcases h2 with h2 | ⟨g, cap, cur, e, hg, h3⟩
  · exact Or.inl h2
  · exact Or.inr ⟨g, cap, cur, e, Nat.le_trans hb hg, h3⟩
theorem Try.info81 : (Try.prog.info? 81).map (fun i => (i.zero, i.size, i.bytes)) = some (some (.agg #[.int .u8 0, .int .u8 0, .int .u8 0, .int .i64 0, .int .u8 0, .int .u8 0, .int .u8 0, .string ByteArray.empty]), 8, 40) := by kernel_rfl
theorem info_of {P : Program} {t : TypeId} {z : Option Value} {s b : Nat} (h : (P.info? t).map (fun i => (i.zero, i.size, i.bytes)) = some (z, s, b)) : ∃ i, P.info? t = some i ∧ i.zero = z ∧ i.size = s ∧ i.bytes = b := by
  cases hi : P.info? t with
  | none => rw [hi] at h; cases h
  | some i =>
    rw [hi] at h
    simp only [Option.map_some, Option.some.injEq, Prod.mk.injEq] at h
    exact ⟨i, rfl, h⟩
end Go.Proofs.Ytpoicbefemjckaa
