/-
  AirOrder, plainly: the six cards in the order of a book.
-/
import Derived.Test.YtmepidalecdmkaaDoorAirL
import Derived.Test.YtmepidalecdmkaaDoorOrdP
namespace Go.Proofs.YtmepidalecdmkaaDoor
open Go.RowKit

def airF : List Ent := [⟨breezeH, .bool false, breezeP⟩, ⟨calmH, .bool false, calmP⟩, ⟨flockH, .bool false, flockP⟩, ⟨kiteH, .bool false, kiteP⟩, ⟨swiftWingH, .bool false, swiftWingP⟩, ⟨wispH, .bool false, wispP⟩]
theorem spec_chk : ∀ x ∈ specL, cchk (x.1.with x.2) = 0 := by decide +kernel
theorem spec_su : ∀ x ∈ specL, x.1.su = 1 := by decide +kernel
theorem spec_ps : ∀ x ∈ specL, x.2.length ≤ 4 := by decide +kernel
theorem spec_nm : (specL.map fun x => x.1.nm).Nodup := by decide +kernel
theorem airF_srt : Srt airF := by
  have h : (airF.map fun e => e.h).Pairwise fun a b => ord a b < 0 := by decide +kernel
  unfold Srt
  rw [List.pairwise_map] at h
  exact h.imp fun hab => (ord_lt _ _).1 hab
theorem airF_spec (x : Ent) (hx : x ∈ airF) : (x.h, x.ps) ∈ specL := by
  simp only [airF, List.mem_cons, List.not_mem_nil, or_false] at hx
  rcases hx with rfl | rfl | rfl | rfl | rfl | rfl <;> simp [specL]
theorem spec_airF (x : Hd × List Pt) (hx : x ∈ specL) : ∃ y ∈ airF, y.cd = x.1.with x.2 := by
  simp only [specL, List.mem_cons, List.not_mem_nil, or_false] at hx
  rcases hx with rfl | rfl | rfl | rfl | rfl | rfl
  · exact ⟨⟨breezeH, .bool false, breezeP⟩, by simp [airF], rfl⟩
  · exact ⟨⟨wispH, .bool false, wispP⟩, by simp [airF], rfl⟩
  · exact ⟨⟨kiteH, .bool false, kiteP⟩, by simp [airF], rfl⟩
  · exact ⟨⟨swiftWingH, .bool false, swiftWingP⟩, by simp [airF], rfl⟩
  · exact ⟨⟨flockH, .bool false, flockP⟩, by simp [airF], rfl⟩
  · exact ⟨⟨calmH, .bool false, calmP⟩, by simp [airF], rfl⟩
/-- The six, in any order. -/
structure Six (es : List Ent) : Prop where
  len : es.length = 6
  perm : (es.map fun e => (e.h, e.ps)).Perm specL
theorem LIs.six {es : List Ent} (h : LIs es 6) : Six es := ⟨h.len (Nat.le_refl _), by unfold LIs at h; rw [h]; exact List.Perm.refl _⟩
theorem Six.mem {es : List Ent} (h : Six es) {e : Ent} (he : e ∈ es) : (e.h, e.ps) ∈ specL := h.perm.mem_iff.1 (List.mem_map.2 ⟨e, he, rfl⟩)
theorem Six.has {es : List Ent} (h : Six es) {x : Hd × List Pt} (hx : x ∈ specL) : ∃ e ∈ es, (e.h, e.ps) = x := by
  obtain ⟨e, he, h1⟩ := List.mem_map.1 (h.perm.mem_iff.2 hx)
  exact ⟨e, he, h1⟩
theorem Six.chk {es : List Ent} (h : Six es) {e : Ent} (he : e ∈ es) : cchk e.cd = 0 := spec_chk _ (h.mem he)
theorem Six.nodup {es : List Ent} (h : Six es) : (names es).Nodup := by
  have h1 := h.perm.map fun x => x.1.nm
  rw [List.map_map] at h1
  exact h1.nodup_iff.2 spec_nm
theorem Six.swap {es : List Ent} (h : Six es) {j k : Nat} {a b : Ent} (hj : es[j]? = some a) (hk : es[k]? = some b) : Six ((es.set j b).set k a) := by
  obtain ⟨h1, rfl⟩ := List.getElem?_eq_some_iff.1 hj
  obtain ⟨h2, rfl⟩ := List.getElem?_eq_some_iff.1 hk
  exact ⟨by simpa using h.len, ((List.set_set_perm h1 h2).map _).trans h.perm⟩
theorem swap_mem {es : List Ent} {j k : Nat} {a b : Ent} (hj : es[j]? = some a) (hk : es[k]? = some b) {e : Ent} (he : e ∈ (es.set j b).set k a) : e ∈ es := by
  obtain ⟨h1, rfl⟩ := List.getElem?_eq_some_iff.1 hj
  obtain ⟨h2, rfl⟩ := List.getElem?_eq_some_iff.1 hk
  exact (List.set_set_perm h1 h2).mem_iff.1 he
/-- A card that is not there yet is taken. -/
theorem six_takes {es fs : List Ent} {l : List Nat} {p : Pl} (h : Six es) (I : Inv es [] [] l fs p) (hp : p.shut = false) {k : Nat} {e : Ent} (he : es[k]? = some e) (hk : ¬ k ∈ l) : caE p fs e.cd = 0 := by
  unfold caE
  rw [if_neg (by simp [hp]), if_neg (by simp [h.chk (List.mem_of_getElem? he)]), if_neg ?_, if_neg ?_]
  · have := I.len; have := h.len; omega
  · intro hn
    have hm := pos_yes _ _ hn
    have hmem : e.cd.nm ∈ names fs := List.mem_of_getElem? hm
    obtain ⟨x, hx, hxn⟩ := List.mem_map.1 hmem
    obtain ⟨i, y, hi, hy, hq⟩ := I.cof x hx
    have hyn : y.h.nm = e.h.nm := by rw [← (ent_of hq).1]; exact hxn
    have p1 := pos_at h.nodup hy
    have p2 := pos_at h.nodup he
    rw [hyn] at p1
    have : (i : Int) = (k : Int) := p1.symm.trans p2
    exact hk ((Int.ofNat.inj this) ▸ hi)
theorem six_same {es fs : List Ent} {l : List Nat} {p : Pl} (h : Six es) (I : Inv es [] [] l fs p) (hl : ∀ i, i < 6 → i ∈ l) (hs : Srt fs) : sameEs fs airF = true := by
  refine srt_same fs airF hs airF_srt (fun x hx => ?_) (fun y hy => ?_)
  · obtain ⟨i, e, _, he, hq⟩ := I.cof x hx
    obtain ⟨y, hy, hy2⟩ := spec_airF _ (h.mem (List.mem_of_getElem? he))
    exact ⟨y, hy, hy2.trans hq.symm⟩
  · obtain ⟨e, he, h1⟩ := h.has (airF_spec y hy)
    obtain ⟨i, hi⟩ := List.getElem?_of_mem he
    have hi6 : i < 6 := by have := (List.getElem?_eq_some_iff.1 hi).1; have := h.len; omega
    obtain ⟨x, hx, hx2⟩ := I.cto i (hl i hi6) e hi
    refine ⟨x, hx, hx2.trans ?_⟩
    injection h1 with a b
    show e.h.with e.ps = y.h.with y.ps
    rw [a, b]
theorem same_get : ∀ {a b : List Ent}, sameEs a b = true → ∀ {i : Nat} {y : Ent}, b[i]? = some y → ∃ x, a[i]? = some x ∧ x.h = y.h
  | [], [], _, i, y, hy => by simp at hy
  | [], _ :: _, h, i, y, hy => by simp [sameEs] at h
  | _ :: _, [], h, i, y, hy => by simp at hy
  | x :: r, z :: s, h, 0, y, hy => by
    simp only [sameEs, sameE, Bool.and_eq_true] at h
    obtain rfl : z = y := by simpa using hy
    exact ⟨x, rfl, hd_ext h.1.1⟩
  | x :: r, z :: s, h, i + 1, y, hy => by
    simp only [sameEs, Bool.and_eq_true] at h
    obtain ⟨q, h1, h2⟩ := same_get h.2 (i := i) (y := y) (by simpa using hy)
    exact ⟨q, by simpa using h1, h2⟩
/-- The book's traits. -/
def swiftB : ByteArray := ⟨#[115, 119, 105, 102, 116]⟩
def fastB' : ByteArray := ⟨#[102, 97, 115, 116]⟩
def pS1 : Pl := { plNew with nms := plNew.nms.set 8 swiftB }
def pS2 : Pl := { pS1 with nms := pS1.nms.set 1 fastB' }
theorem tr_swift : trE plNew 8 ⟨#[115, 119, 105, 102, 116]⟩ = 0 ∧ trE pS1 1 ⟨#[102, 97, 115, 116]⟩ = 0 := by decide +kernel
theorem trP_swift : trP plNew 8 ⟨#[115, 119, 105, 102, 116]⟩ = pS1 := if_pos tr_swift.1
theorem trP_fast : trP pS1 1 ⟨#[102, 97, 115, 116]⟩ = pS2 := if_pos tr_swift.2
theorem seal_airF : sealE pS2 airF = 0 := by decide +kernel
end Go.Proofs.YtmepidalecdmkaaDoor
