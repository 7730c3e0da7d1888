/-
  one: the i-th of what a book is filled with is added.
-/
import Derived.Test.YtpoicbefemjckaaBok
namespace Go.Proofs.Ytpoicbefemjckaa
open Go.RowKit

/-- What a book is filled with: where its three lists lie. -/
structure FillAt (w : World) (vc vt vm : Value) (cs : List Ent) (ts : List ByteArray) (ms : List Mk) : Prop where
  c : ∃ a k, vc = .slice a cs.length k ∧ (0 < cs.length → ∃ g o, a = some ⟨g, o, none⟩ ∧ EsAt w g o cs)
  t : ∃ a k, vt = .slice a ts.length k ∧ (0 < ts.length → ∃ g o, a = some ⟨g, o, none⟩ ∧ StrAt w g o ts)
  m : ∃ a k, vm = .slice a ms.length k ∧ (0 < ms.length → ∃ g o, a = some ⟨g, o, none⟩ ∧ MAt w g o ms)
  ps : ∀ e ∈ cs, PsAt w e.v e.ps ∧ Small e.ps.length
theorem StrAt.keep {w w' : World} {g o : Nat} {l : List ByteArray} (h : StrAt w g o l) (k : w.grownBy w' none) : StrAt w' g o l := fun j s hs => k.cell (h j s hs) (by simp)
theorem FillAt.keep {w w' : World} {vc vt vm : Value} {cs : List Ent} {ts : List ByteArray} {ms : List Mk} (h : FillAt w vc vt vm cs ts ms) (g : w.grownBy w' none) : FillAt w' vc vt vm cs ts ms := by
  obtain ⟨⟨a, k, e, h1⟩, ⟨b, l, f, h2⟩, ⟨c, m, i, h3⟩, h4⟩ := h
  refine ⟨⟨a, k, e, fun h0 => ?_⟩, ⟨b, l, f, fun h0 => ?_⟩, ⟨c, m, i, fun h0 => ?_⟩, fun e he => ⟨(h4 e he).1.keep g, (h4 e he).2⟩⟩
  · obtain ⟨x, o, e1, e2⟩ := h1 h0; exact ⟨x, o, e1, e2.keep g⟩
  · obtain ⟨x, o, e1, e2⟩ := h2 h0; exact ⟨x, o, e1, e2.keep g⟩
  · obtain ⟨x, o, e1, e2⟩ := h3 h0; exact ⟨x, o, e1, e2.keep g⟩
/-- What is told of the i-th, and what becomes of the book (u: where its parts lie). -/
def oneE (p : Pl) (es : List Ent) (cs : List Ent) (ts : List ByteArray) (ms : List Mk) (i : Nat) : Int :=
  if i < cs.length then caE p es (match cs[i]? with
    | some e => e.cd
    | none => Cd.none)
  else if i < cs.length + ts.length then trE p ((i - cs.length : Nat) + 1 : Int) (ts.getD (i - cs.length) ⟨#[]⟩)
  else maE p (ms.getD (i - cs.length - ts.length) Mk.none)
def oneEs (p : Pl) (es : List Ent) (cs : List Ent) (u : Value) (i : Nat) : List Ent := match cs[i]? with
  | some e => if caE p es e.cd = 0 then ins es ⟨e.h, u, e.ps⟩ else es
  | none => es
def oneP (p : Pl) (cs : List Ent) (ts : List ByteArray) (ms : List Mk) (i : Nat) : Pl :=
  if i < cs.length then p else if i < cs.length + ts.length then trP p ((i - cs.length : Nat) + 1 : Int) (ts.getD (i - cs.length) ⟨#[]⟩)
  else maP p (ms.getD (i - cs.length - ts.length) Mk.none)
def fv (vc vt vm : Value) : Value := .agg #[vc, vt, vm]
theorem w64_of (x : Int) (h0 : 0 ≤ x) (h1 : x < 1000) : wrap64 x = x := by unfold wrap64; omega
theorem w8_of (x : Int) (h0 : 0 ≤ x) (h1 : x < 100) : wrap64 (1 + x) % 256 = x + 1 := by rw [w64_of (1 + x) (by omega) (by omega)]; omega
theorem one_w {i c d : Nat} (h : d = i - c) (h1 : ¬ i < c) (h2 : i < 200) : wrap64 ((i : Int) - (c : Int)) = (d : Int) := by
  rw [w64_of ((i : Int) - (c : Int)) (by omega) (by omega)]; omega
end Go.Proofs.Ytpoicbefemjckaa
