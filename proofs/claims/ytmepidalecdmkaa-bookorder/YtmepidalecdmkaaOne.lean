/-
  one: the i-th of what a book is filled with is added.
-/
import Derived.Test.YtmepidalecdmkaaBok
namespace Go.Proofs.Ytmepidalecdmkaa
open Go.RowKit

/-- What a book is filled with: where its three lists lie. -/
structure FillAt (w : World) (vc vt vm : Value) (cs : List Ent) (ts : List ByteArray) (ms : List Mk) : Prop where
  c : ∃ a k, vc = .slice a cs.length k ∧ (0 < cs.length → ∃ g o, a = some ⟨g, o, none⟩ ∧ EsAt w g o cs)
  t : ∃ a k, vt = .slice a ts.length k ∧ (0 < ts.length → ∃ g o, a = some ⟨g, o, none⟩ ∧ StrAt w g o ts)
  m : ∃ a k, vm = .slice a ms.length k ∧ (0 < ms.length → ∃ g o, a = some ⟨g, o, none⟩ ∧ MAt w g o ms)
  ps : ∀ e ∈ cs, PsAt w e.v e.ps ∧ Small e.ps.length
theorem StrAt.keep {w w' : World} {g o : Nat} {l : List ByteArray} (h : StrAt w g o l) (k : w.grownBy w' none) : StrAt w' g o l := fun j s hs => k.cell (h j s hs) (by simp)
theorem FillAt.keep {w w' : World} {vc vt vm : Value} {cs : List Ent} {ts : List ByteArray} {ms : List Mk} (h : FillAt w vc vt vm cs ts ms) (g : w.grownBy w' none) : FillAt w' vc vt vm cs ts ms := by
  obtain ⟨⟨a, k, e, h1⟩, ⟨b, l, f, h2⟩, ⟨c, m, i, h3⟩, h4⟩ := h
  refine ⟨⟨a, k, e, fun h0 => ?_⟩, ⟨b, l, f, fun h0 => ?_⟩, ⟨c, m, i, fun h0 => ?_⟩, fun e he => ⟨(h4 e he).1.keep g, (h4 e he).2⟩⟩
  · obtain ⟨x, o, e1, e2⟩ := h1 h0; exact ⟨x, o, e1, e2.keep g⟩
  · obtain ⟨x, o, e1, e2⟩ := h2 h0; exact ⟨x, o, e1, e2.keep g⟩
  · obtain ⟨x, o, e1, e2⟩ := h3 h0; exact ⟨x, o, e1, e2.keep g⟩
/-- What is told of the i-th, and what becomes of the book (u: where its parts lie). -/
def oneE (p : Pl) (es : List Ent) (cs : List Ent) (ts : List ByteArray) (ms : List Mk) (i : Nat) : Int :=
  if i < cs.length then caE p es (match cs[i]? with
    | some e => e.cd
    | none => Cd.none)
  else if i < cs.length + ts.length then trE p ((i - cs.length : Nat) + 1 : Int) (ts.getD (i - cs.length) ⟨#[]⟩)
  else maE p (ms.getD (i - cs.length - ts.length) Mk.none)
def oneEs (p : Pl) (es : List Ent) (cs : List Ent) (u : Value) (i : Nat) : List Ent := match cs[i]? with
  | some e => if caE p es e.cd = 0 then ins es ⟨e.h, u, e.ps⟩ else es
  | none => es
def oneP (p : Pl) (cs : List Ent) (ts : List ByteArray) (ms : List Mk) (i : Nat) : Pl :=
  if i < cs.length then p else if i < cs.length + ts.length then trP p ((i - cs.length : Nat) + 1 : Int) (ts.getD (i - cs.length) ⟨#[]⟩)
  else maP p (ms.getD (i - cs.length - ts.length) Mk.none)
def fv (vc vt vm : Value) : Value := .agg #[vc, vt, vm]
def FiAt (w : World) (b : Nat) (vc vt vm : Value) : Prop := w.heap[b]? = some (.cells #[vc, vt, vm] 26 (0, 0))
theorem w64_of (x : Int) (h0 : 0 ≤ x) (h1 : x < 1000) : wrap64 x = x := by unfold wrap64; omega
theorem w8_of (x : Int) (h0 : 0 ≤ x) (h1 : x < 100) : wrap64 (1 + x) % 256 = x + 1 := by rw [w64_of (1 + x) (by omega) (by omega)]; omega
theorem one_w {i c d : Nat} (h : d = i - c) (h1 : ¬ i < c) (h2 : i < 200) : wrap64 ((i : Int) - (c : Int)) = (d : Int) := by
  rw [w64_of ((i : Int) - (c : Int)) (by omega) (by omega)]; omega
set_option maxRecDepth 100000 in
set_option maxHeartbeats 2000000 in
theorem one_any (ok : Nat → Prop) (b : Nat) (es : List Ent) (p : Pl) (vc vt vm : Value) (cs : List Ent) (ts : List ByteArray) (ms : List Mk) (i : Nat) (w : World) (B : Book ok w b es p) (hok : ¬ ok b) (hnew : ∀ k, w.heap.size ≤ k → ok k) (F : FillAt w vc vt vm cs ts ms) (hc : cs.length ≤ 80) (ht : ts.length ≤ 8) (hm : ms.length ≤ 8) (hi : i < cs.length + ts.length + ms.length) : Calls Try.prog 45 #[.pointer (some ⟨b, 0, none⟩), fv vc vt vm, .int .i64 (i : Int)] w fun e w' => ∃ u, e = .returned (.int .i64 (oneE p es cs ts ms i)) ∧ Book ok w' b (oneEs p es cs u i) (oneP p cs ts ms i) ∧ w.grownBy w' (some b) := by
  obtain ⟨⟨ca, ck, rfl, hC⟩, ⟨ta, tk, rfl, hT⟩, ⟨ma, mk', rfl, hM⟩, hP⟩ := F
  obtain ⟨W1, hW1⟩ : ∃ W1, W1 = w.alloc (.cells #[.slice ca cs.length ck, .slice ta ts.length tk, .slice ma ms.length mk'] 26) := ⟨_, rfl⟩
  have HG1 : Hid (w.grownBy W1 none) := by rw [hW1]; exact World.grownBy_alloc _ _ none
  have A1 : W1.heap[w.heap.size]? = some (.cells #[.slice ca cs.length ck, .slice ta ts.length tk, .slice ma ms.length mk'] 26 (0, 0)) := by rw [hW1]; exact alloc_at w _ _
  have B1 := B.keep HG1.out
  have nw1 : ∀ k, W1.heap.size ≤ k → ok k := fun k hk => hnew k (Nat.le_trans HG1.out.size hk)
  have a0 : W1.cell? ⟨w.heap.size, 0, none⟩ = some (.slice ca cs.length ck) := block_cell A1 0
  have a1 : W1.cell? ⟨w.heap.size, 1, none⟩ = some (.slice ta ts.length tk) := block_cell A1 1
  have a2 : W1.cell? ⟨w.heap.size, 2, none⟩ = some (.slice ma ms.length mk') := block_cell A1 2
  clear A1
  unfold fv
  by_cases h1 : i < cs.length
  · obtain ⟨g, o, rfl, hE⟩ := hC (by omega)
    obtain ⟨e, he⟩ : ∃ e, cs[i]? = some e := ⟨_, List.getElem?_eq_getElem h1⟩
    have e1 : oneE p es cs ts ms i = caE p es e.cd := by unfold oneE; rw [if_pos h1, he]
    have e2 : oneP p cs ts ms i = p := if_pos h1
    have e3 : ∀ u, oneEs p es cs u i = if caE p es e.cd = 0 then ins es ⟨e.h, u, e.ps⟩ else es := fun u => by unfold oneEs; rw [he]
    rw [e1, e2]
    obtain ⟨P, sm⟩ := hP e (List.mem_of_getElem? he)
    have HC := bcard ok b es p e.h e.v e.ps W1 B1 hok nw1 (P.keep HG1.out) sm
    have D := (hE i e he).keep HG1.out
    obtain ⟨hd, v, ps⟩ := e
    simp only at HC D P
    obtain ⟨x, y, rfl⟩ := P.form
    obtain ⟨d0, d1, d2, d3, d4, d5, d6, d7, d8⟩ := D
    unfold cv at HC
    have i0 : (0 : Int) ≤ (i : Int) := by omega
    have i1 : (i : Int) < (cs.length : Int) := by omega
    have HE3 : Hid (∀ u, oneEs p es cs u i = if caE p es (Ent.cd ⟨hd, .slice x ps.length y, ps⟩) = 0 then ins es ⟨hd, u, ps⟩ else es) := e3
    clear e1 e2 e3 he hE hT hM hP hC hc ht hm hi h1 P sm B B1 hnew nw1
    go_enter Try.func45, Try.ntmps45
    go_upto_region 1 with fail
    rw [← hW1]
    clear hW1
    go_wp2_with (first | (go_at_call 14; refine HC.mono ?_; rintro e w2 ⟨u, rfl, B2, g2⟩) | fail)
    go_ret
    exact ⟨u, rfl, by rw [HE3.out]; exact B2, grown_own' HG1.out g2⟩
  · obtain ⟨d, hd⟩ : ∃ d, d = i - cs.length := ⟨_, rfl⟩
    have hn : cs[i]? = none := List.getElem?_eq_none (by omega)
    have e3 : ∀ u, oneEs p es cs u i = es := fun u => by unfold oneEs; rw [hn]
    have i1 : (cs.length : Int) ≤ (i : Int) := by omega
    have i200 : i < 200 := by omega
    have HE3 : Hid (∀ u, oneEs p es cs u i = es) := e3
    clear e3 hn hC hP
    by_cases h2 : d < ts.length
    · obtain ⟨g, o, rfl, hS⟩ := hT (by omega)
      obtain ⟨s, hs⟩ : ∃ s, ts[d]? = some s := ⟨_, List.getElem?_eq_getElem h2⟩
      have gs : ts.getD d ⟨#[]⟩ = s := by rw [List.getD_eq_getElem?_getD, hs]; rfl
      have e1 : oneE p es cs ts ms i = trE p ((d : Int) + 1) s := by unfold oneE; rw [if_neg h1, if_pos (by omega), ← hd, gs]
      have e2 : oneP p cs ts ms i = trP p ((d : Int) + 1) s := by unfold oneP; rw [if_neg h1, if_pos (by omega), ← hd, gs]
      rw [e1, e2]
      have S := HG1.out.cell (hS d s hs) (by simp)
      have d100 : (d : Int) < 100 := by omega
      have d0 : (0 : Int) ≤ (d : Int) := by omega
      have d1 : (d : Int) < (ts.length : Int) := by omega
      have wt : wrap64 (1 + (d : Int)) % 256 = (d : Int) + 1 := w8_of _ d0 d100
      have wi : wrap64 ((i : Int) - (cs.length : Int)) = (d : Int) := one_w hd h1 i200
      have HC := btrait ok b es p ((d : Int) + 1) s W1 B1 hok
      clear e1 e2 gs hs hS hT hM hc ht hm hi h1 h2 hd d100 i200 B hnew nw1
      go_enter Try.func45, Try.ntmps45
      go_upto_region 1 with fail
      rw [← hW1]
      clear hW1
      go_wp2_with fail
      rw [Int.add_comm]
      refine HC.mono ?_
      rintro e w2 ⟨rfl, B2, g2⟩
      go_wp2
      go_ret
      exact ⟨.bool false, rfl, by rw [HE3.out]; exact B2, grown_own' HG1.out g2⟩
    · obtain ⟨c, hc2⟩ : ∃ c, c = d - ts.length := ⟨_, rfl⟩
      have h3 : c < ms.length := by omega
      obtain ⟨g, o, rfl, hS⟩ := hM (by omega)
      obtain ⟨m, hs⟩ : ∃ m, ms[c]? = some m := ⟨_, List.getElem?_eq_getElem h3⟩
      have gs : ms.getD (i - cs.length - ts.length) Mk.none = m := by rw [← hd, ← hc2, List.getD_eq_getElem?_getD, hs]; rfl
      have e1 : oneE p es cs ts ms i = maE p m := by unfold oneE; rw [if_neg h1, if_neg (by omega), gs]
      have e2 : oneP p cs ts ms i = maP p m := by unfold oneP; rw [if_neg h1, if_neg (by omega), gs]
      rw [e1, e2]
      obtain ⟨k0, k1, k2, k3⟩ := (hS c m hs).keep HG1.out
      have HC := bmark ok b es p m W1 B1 hok
      obtain ⟨mi, nm, po, he⟩ := m
      simp only at k0 k1 k2 k3
      unfold mv at HC
      have d0 : (ts.length : Int) ≤ (d : Int) := by omega
      have d200 : d < 200 := by omega
      have c0 : (0 : Int) ≤ (c : Int) := by omega
      have c1 : (c : Int) < (ms.length : Int) := by omega
      have wc : wrap64 ((d : Int) - (ts.length : Int)) = (c : Int) := one_w hc2 h2 d200
      have wi : wrap64 ((i : Int) - (cs.length : Int)) = (d : Int) := one_w hd h1 i200
      clear e1 e2 gs hs hS hT hM hc ht hm hi h1 h2 h3 hc2 hd d200 i200 B hnew nw1
      go_enter Try.func45, Try.ntmps45
      go_upto_region 1 with fail
      rw [← hW1]
      clear hW1
      go_wp2_with (first | (go_at_call 16; refine HC.mono ?_; rintro e w2 ⟨rfl, B2, g2⟩) | fail)
      go_ret
      exact ⟨.bool false, rfl, by rw [HE3.out]; exact B2, grown_own' HG1.out g2⟩
end Go.Proofs.Ytmepidalecdmkaa
