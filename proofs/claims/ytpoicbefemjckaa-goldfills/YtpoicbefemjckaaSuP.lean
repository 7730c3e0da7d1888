/-
  A book filled with the cards of a suit, in any order, plainly.
-/
import Derived.Test.YtpoicbefemjckaaSuG
import Derived.Test.YtpoicbefemjckaaOrdP
namespace Go.Proofs.Ytpoicbefemjckaa
open Go.RowKit

/-- Cards that may be, with unlike names, and the row of them in the order of a book. -/
structure SpOk (sp : List (Hd × List Pt)) (F : List Ent) : Prop where
  chk : ∀ x ∈ sp, cchk (x.1.with x.2) = 0
  four : ∀ x ∈ sp, x.2.length ≤ 4
  nod : (sp.map fun x => x.1.nm).Nodup
  few : sp.length < 64
  srt : Srt F
  perm : (F.map fun e => (e.h, e.ps)).Perm sp
theorem srt_of {F : List Ent} (h : (F.map fun e => e.h).Pairwise fun a b => ord a b < 0) : Srt F := by
  unfold Srt
  rw [List.pairwise_map] at h
  exact h.imp fun hab => (ord_lt _ _).1 hab
/-- The cards, in any order. -/
structure Crs (sp : List (Hd × List Pt)) (es : List Ent) : Prop where
  len : es.length = sp.length
  perm : (es.map fun e => (e.h, e.ps)).Perm sp
theorem Crs.of {sp : List (Hd × List Pt)} {es : List Ent} (h : es.map (fun e => (e.h, e.ps)) = sp) : Crs sp es := ⟨by rw [← h]; simp, by rw [h]⟩
theorem Crs.mem {sp : List (Hd × List Pt)} {es : List Ent} (h : Crs sp es) {e : Ent} (he : e ∈ es) : (e.h, e.ps) ∈ sp := h.perm.mem_iff.1 (List.mem_map.2 ⟨e, he, rfl⟩)
theorem Crs.has {sp : List (Hd × List Pt)} {es : List Ent} (h : Crs sp es) {x : Hd × List Pt} (hx : x ∈ sp) : ∃ e ∈ es, (e.h, e.ps) = x := by
  obtain ⟨e, he, h1⟩ := List.mem_map.1 (h.perm.mem_iff.2 hx)
  exact ⟨e, he, h1⟩
theorem Crs.chk {sp : List (Hd × List Pt)} {F es : List Ent} (h : Crs sp es) (S : SpOk sp F) {e : Ent} (he : e ∈ es) : cchk e.cd = 0 := S.chk _ (h.mem he)
theorem Crs.nodup {sp : List (Hd × List Pt)} {F es : List Ent} (h : Crs sp es) (S : SpOk sp F) : (names es).Nodup := by
  have h1 := h.perm.map fun x => x.1.nm
  rw [List.map_map] at h1
  exact h1.nodup_iff.2 S.nod
theorem Crs.swap {sp : List (Hd × List Pt)} {es : List Ent} (h : Crs sp es) {j k : Nat} {a b : Ent} (hj : es[j]? = some a) (hk : es[k]? = some b) : Crs sp ((es.set j b).set k a) := by
  obtain ⟨h1, rfl⟩ := List.getElem?_eq_some_iff.1 hj
  obtain ⟨h2, rfl⟩ := List.getElem?_eq_some_iff.1 hk
  exact ⟨by simpa using h.len, ((List.set_set_perm h1 h2).map _).trans h.perm⟩
theorem swap_mem {es : List Ent} {j k : Nat} {a b : Ent} (hj : es[j]? = some a) (hk : es[k]? = some b) {e : Ent} (he : e ∈ (es.set j b).set k a) : e ∈ es := by
  obtain ⟨h1, rfl⟩ := List.getElem?_eq_some_iff.1 hj
  obtain ⟨h2, rfl⟩ := List.getElem?_eq_some_iff.1 hk
  exact (List.set_set_perm h1 h2).mem_iff.1 he
/-- A card that is not there yet is taken. -/
theorem crs_takes {sp : List (Hd × List Pt)} {F es fs : List Ent} {l : List Nat} {p : Pl} (S : SpOk sp F) (h : Crs sp es) (I : Inv es [] [] l fs p) (hp : p.shut = false) {k : Nat} {e : Ent} (he : es[k]? = some e) (hk : ¬ k ∈ l) : caE p fs e.cd = 0 := by
  unfold caE
  rw [if_neg (by simp [hp]), if_neg (by simp [h.chk S (List.mem_of_getElem? he)]), if_neg ?_, if_neg ?_]
  · have := I.len; have := h.len; have := S.few; omega
  · intro hn
    have hm := pos_yes _ _ hn
    have hmem : e.cd.nm ∈ names fs := List.mem_of_getElem? hm
    obtain ⟨x, hx, hxn⟩ := List.mem_map.1 hmem
    obtain ⟨i, y, hi, hy, hq⟩ := I.cof x hx
    have hyn : y.h.nm = e.h.nm := by rw [← (ent_of hq).1]; exact hxn
    have p1 := pos_at (h.nodup S) hy
    have p2 := pos_at (h.nodup S) he
    rw [hyn] at p1
    have : (i : Int) = (k : Int) := p1.symm.trans p2
    exact hk ((Int.ofNat.inj this) ▸ hi)
theorem crs_same {sp : List (Hd × List Pt)} {F es fs : List Ent} {l : List Nat} {p : Pl} (S : SpOk sp F) (h : Crs sp es) (I : Inv es [] [] l fs p) (hl : ∀ i, i < sp.length → i ∈ l) (hs : Srt fs) : sameEs fs F = true := by
  have cF : Crs sp F := ⟨by have := S.perm.length_eq; simpa using this, S.perm⟩
  refine srt_same fs F hs S.srt (fun x hx => ?_) (fun y hy => ?_)
  · obtain ⟨i, e, _, he, hq⟩ := I.cof x hx
    obtain ⟨y, hy, h1⟩ := cF.has (h.mem (List.mem_of_getElem? he))
    refine ⟨y, hy, Eq.trans ?_ hq.symm⟩
    injection h1 with a b
    show y.h.with y.ps = e.h.with e.ps
    rw [a, b]
  · obtain ⟨e, he, h1⟩ := h.has (cF.mem hy)
    obtain ⟨i, hi⟩ := List.getElem?_of_mem he
    have hi6 : i < sp.length := by have := (List.getElem?_eq_some_iff.1 hi).1; have := h.len; omega
    obtain ⟨x, hx, hx2⟩ := I.cto i (hl i hi6) e hi
    refine ⟨x, hx, hx2.trans ?_⟩
    injection h1 with a b
    show e.h.with e.ps = y.h.with y.ps
    rw [a, b]
theorem samep_ext {p q : Pt} (h : samep p q = true) : p = q := Classical.byContradiction fun hn => by rw [samep_no hn] at h; cases h
theorem samePs_eq : ∀ {a b : List Pt}, samePs a b = true → a = b
  | [], [], _ => rfl
  | [], _ :: _, h => by simp [samePs] at h
  | _ :: _, [], h => by simp [samePs] at h
  | x :: r, y :: t, h => by
    simp only [samePs, Bool.and_eq_true] at h
    rw [samep_ext h.1, samePs_eq h.2]
theorem sameEs_two : ∀ {a b c : List Ent}, sameEs a c = true → sameEs b c = true → sameEs a b = true
  | [], [], [], _, _ => rfl
  | [], _ :: _, [], _, h => by simp [sameEs] at h
  | _ :: _, _, [], h, _ => by simp [sameEs] at h
  | [], _, _ :: _, h, _ => by simp [sameEs] at h
  | _ :: _, [], _ :: _, _, h => by simp [sameEs] at h
  | x :: r, y :: t, z :: u, h, k => by
    simp only [sameEs, sameE, Bool.and_eq_true] at h k ⊢
    refine ⟨⟨?_, ?_⟩, sameEs_two h.2 k.2⟩
    · rw [hd_ext h.1.1, hd_ext k.1.1]; exact sameHd_refl _
    · rw [samePs_eq h.1.2, samePs_eq k.1.2]; exact samePs_refl _
theorem sameEs_length : ∀ {a b : List Ent}, sameEs a b = true → a.length = b.length := fun {a b} h => Classical.byContradiction fun hn => by rw [sameEs_len hn] at h; cases h
end Go.Proofs.Ytpoicbefemjckaa
