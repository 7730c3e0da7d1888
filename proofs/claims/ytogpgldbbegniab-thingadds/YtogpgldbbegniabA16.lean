/-
  The document's own book: Trait, TraitName.
  The document's own book: MarkOf, Mark.
  Things, plainly: features, what marks add, the places of a card's parts of a moment.
  The document's own book: Mark.
-/
import Derived.Test.YtogpgldbbegniabA15
import Derived.Test.YtogpgldbbegniabA12
namespace Go.Proofs.Ytogpgldbbegniab
open Go.RowKit

theorem RJ.setN {w : World} {b : Nat} {v : Value} {p : Pl} (h : RJ w b v p) {t : Nat} (ht : t < 9) (s : ByteArray) : RJ (w.setCell ⟨b, 3 + t, none⟩ (.string s)) b v { p with nms := p.nms.set t s } := by
  refine ⟨?_, by simpa using h.nine, h.five⟩
  rw [block_set h.lies]
  congr 2
  rw [List.setIfInBounds_toArray]
  congr 1
  unfold rcells
  rw [show 3 + t = t + 1 + 1 + 1 by omega]
  simp only [List.set_cons_succ]
  rw [List.set_append_left _ _ (by simp [h.nine]; omega), List.map_set]
/-- No name of these is the name, and that of the trait is free. -/
def NoT (p : Pl) (t : Nat) (s : ByteArray) (i : Nat) : Prop := ∀ (j : Nat) x, 1 ≤ j → j < i → p.nms[j]? = some x → ¬ x = s ∧ (j = t → x = ⟨#[]⟩)
theorem empty_name : nameOk (ByteArray.mk #[]).data.toList = false := rfl
theorem trE_hit {p : Pl} {t i : Nat} {s x : ByteArray} (hs : p.shut = false) (h1 : 1 ≤ t) (h8 : t ≤ 8) (hn : nameOk s.data.toList = true) (hx : p.nms[i]? = some x) (h : x = s ∨ (i = t ∧ ¬ x = ⟨#[]⟩)) : trE p (t : Int) s = 5 := by
  unfold trE
  rw [if_neg (by simp [hs]), if_neg (by omega), if_neg (by simp [hn]), if_pos ?_]
  rcases h with rfl | ⟨rfl, h⟩
  · right
    apply Classical.byContradiction
    intro hc
    exact pos_no (Int.not_le.1 hc) (List.mem_of_getElem? hx)
  · left
    rw [Int.toNat_natCast, List.getD_eq_getElem?_getD, hx]
    exact h
theorem trE_free {p : Pl} {t : Nat} {s : ByteArray} (hs : p.shut = false) (h1 : 1 ≤ t) (h8 : t ≤ 8) (hn : nameOk s.data.toList = true) (h9 : p.nms.length = 9) (hz : p.nms[0]? = some ⟨#[]⟩) (h : NoT p t s 9) : trE p (t : Int) s = 0 := by
  unfold trE
  rw [if_neg (by simp [hs]), if_neg (by omega), if_neg (by simp [hn]), if_neg ?_]
  rintro (h2 | h2)
  · obtain ⟨x, hx⟩ : ∃ x, p.nms[t]? = some x := ⟨_, List.getElem?_eq_getElem (by omega)⟩
    rw [Int.toNat_natCast, List.getD_eq_getElem?_getD, hx] at h2
    exact h2 ((h t x h1 (by omega) hx).2 rfl)
  · have hm := pos_yes _ _ h2
    have hl := (List.getElem?_eq_some_iff.1 hm).1
    by_cases h0 : (pos p.nms s).toNat = 0
    · rw [h0, hz] at hm
      obtain rfl := Option.some.inj hm
      rw [empty_name] at hn
      cases hn
    · exact (h _ s (by omega) (by omega) hm).1 rfl
theorem NoT.next {p : Pl} {t i : Nat} {s x : ByteArray} (h : NoT p t s i) (hx : p.nms[i]? = some x) (h1 : ¬ x = s) (h2 : i = t → x = ⟨#[]⟩) : NoT p t s (i + 1) := fun j y hj1 hj hy => by
  rcases (show j < i ∨ j = i from by omega) with hji | rfl
  · exact h j y hj1 hji hy
  · rw [hx] at hy
    obtain rfl := Option.some.inj hy
    exact ⟨h1, h2⟩
end Go.Proofs.Ytogpgldbbegniab
namespace Go.Proofs.Ytogpgldbbegniab
open Go.RowKit

/-- What is marked is marked whole. -/
def MkD (p : Pl) : Prop := p.mks[0]? = some Mk.none ∧ ∀ m ∈ p.mks, m = Mk.none ∨ (¬ m.mi = 0 ∧ ¬ m.nm = ⟨#[]⟩)
end Go.Proofs.Ytogpgldbbegniab
namespace Go.Proofs.Ytogpgldbbegniab
open Go.RowKit

/-- Features. -/
structure Fe where
  ho : Int
  su : Int
  tr : Int
  po : Int
  he : Int
def Fe.none : Fe := ⟨0, 0, 0, 0, 0⟩
def fev (f : Fe) : Value := .agg #[.int .i64 f.ho, .int .u8 f.su, .int .u16 f.tr, .int .i64 f.po, .int .i64 f.he]
def fcs (f : Fe) : Array Value := #[.int .i64 f.ho, .int .u8 f.su, .int .u16 f.tr, .int .i64 f.po, .int .i64 f.he]
/-- A number that an int holds. -/
def InI (a : Int) : Prop := -9223372036854775808 ≤ a ∧ a ≤ 9223372036854775807
theorem inI_wrap (a : Int) : InI (wrap64 a) := by unfold InI wrap64; omega
theorem wrap_in {a : Int} (h : InI a) : wrap64 a = a := by unfold InI at h; unfold wrap64; omega
theorem wrap_addR (a b : Int) : wrap64 (a + wrap64 b) = wrap64 (a + b) := by unfold wrap64; omega
theorem wrap_addL (a b : Int) : wrap64 (wrap64 a + b) = wrap64 (a + b) := by unfold wrap64; omega
/-- So many of one mark added. -/
def adw (a c m : Int) : Int := wrap64 (a + wrap64 (c * m))
theorem adw_eq (a c m : Int) : adw a c m = wrap64 (a + c * m) := wrap_addR _ _
theorem adw_zero {a : Int} (c : Int) (h : InI a) : adw a c 0 = a := by rw [adw_eq, Int.mul_zero, Int.add_zero, wrap_in h]
def addP (a : Int) (l : List (Int × Mk)) : Int := l.foldl (fun a x => adw a x.1 x.2.po) a
def addH (a : Int) (l : List (Int × Mk)) : Int := l.foldl (fun a x => adw a x.1 x.2.he) a
theorem addP_snoc (a : Int) (l : List (Int × Mk)) (x : Int × Mk) : addP a (l ++ [x]) = adw (addP a l) x.1 x.2.po := by unfold addP; rw [List.foldl_append]; rfl
theorem addH_snoc (a : Int) (l : List (Int × Mk)) (x : Int × Mk) : addH a (l ++ [x]) = adw (addH a l) x.1 x.2.he := by unfold addH; rw [List.foldl_append]; rfl
theorem addP_in {a : Int} (h : InI a) : ∀ l : List (Int × Mk), InI (addP a l)
  | [] => h
  | x :: l => addP_in (a := adw a x.1 x.2.po) (inI_wrap _) l
theorem addH_in {a : Int} (h : InI a) : ∀ l : List (Int × Mk), InI (addH a l)
  | [] => h
  | x :: l => addH_in (a := adw a x.1 x.2.he) (inI_wrap _) l
/-- How many there are of each mark, and what one of it adds. -/
def zs (p : Pl) (c0 c1 c2 c3 : Int) : List (Int × Mk) := [(c0, moM p 1), (c1, moM p 2), (c2, moM p 3), (c3, moM p 4)]
def low0 (a : Int) : Int := if a < 0 then 0 else a
/-- What Marked tells. -/
def mkdF (p : Pl) (f : Fe) (c0 c1 c2 c3 : Int) : Fe := ⟨f.ho, f.su, f.tr, low0 (addP f.po (zs p c0 c1 c2 c3)), addH f.he (zs p c0 c1 c2 c3)⟩
def okC (c : Int) : Prop := 0 ≤ c ∧ c ≤ 99
def okCs (c0 c1 c2 c3 : Int) : Prop := okC c0 ∧ okC c1 ∧ okC c2 ∧ okC c3
/-- A mark that the book has not adds nothing. -/
theorem moM_no {p : Pl} (hD : MkD p) {t : Int} (h : moB p t = false) : (moM p t).po = 0 ∧ (moM p t).he = 0 := by
  have hn : (moM p t).nm = ⟨#[]⟩ := by unfold moB at h; simpa using h
  have hm : moM p t = Mk.none ∨ moM p t ∈ p.mks := by
    unfold moM
    split
    · rw [List.getD_eq_getElem?_getD]
      cases hk : p.mks[t.toNat]? with
      | none => exact Or.inl rfl
      | some m => exact Or.inr (List.mem_of_getElem? hk)
    · exact Or.inl rfl
  rcases hm with hm | hm
  · rw [hm]; exact ⟨rfl, rfl⟩
  · rcases hD.2 _ hm with h1 | h1
    · rw [h1]; exact ⟨rfl, rfl⟩
    · exact absurd hn h1.2
/-- The sum, in one. -/
theorem addP_zs (p : Pl) (a c0 c1 c2 c3 : Int) : addP a (zs p c0 c1 c2 c3) = wrap64 (a + (c0 * (moM p 1).po + c1 * (moM p 2).po + c2 * (moM p 3).po + c3 * (moM p 4).po)) := by
  show adw (adw (adw (adw a c0 _) c1 _) c2 _) c3 _ = _
  rw [adw_eq, adw_eq, adw_eq, adw_eq, wrap_addL, Int.add_assoc, wrap_addL, Int.add_assoc, wrap_addL]
  congr 1
  simp only
  omega
theorem addH_zs (p : Pl) (a c0 c1 c2 c3 : Int) : addH a (zs p c0 c1 c2 c3) = wrap64 (a + (c0 * (moM p 1).he + c1 * (moM p 2).he + c2 * (moM p 3).he + c3 * (moM p 4).he)) := by
  show adw (adw (adw (adw a c0 _) c1 _) c2 _) c3 _ = _
  rw [adw_eq, adw_eq, adw_eq, adw_eq, wrap_addL, Int.add_assoc, wrap_addL, Int.add_assoc, wrap_addL]
  congr 1
  simp only
  omega
theorem addP_both (p : Pl) (a c0 c1 c2 c3 d0 d1 d2 d3 : Int) : addP (addP a (zs p c0 c1 c2 c3)) (zs p d0 d1 d2 d3) = addP a (zs p (c0 + d0) (c1 + d1) (c2 + d2) (c3 + d3)) := by
  rw [addP_zs, addP_zs, addP_zs, wrap_addL]
  congr 1
  rw [Int.add_mul, Int.add_mul, Int.add_mul, Int.add_mul]
  omega
theorem addH_both (p : Pl) (a c0 c1 c2 c3 d0 d1 d2 d3 : Int) : addH (addH a (zs p c0 c1 c2 c3)) (zs p d0 d1 d2 d3) = addH a (zs p (c0 + d0) (c1 + d1) (c2 + d2) (c3 + d3)) := by
  rw [addH_zs, addH_zs, addH_zs, wrap_addL]
  congr 1
  rw [Int.add_mul, Int.add_mul, Int.add_mul, Int.add_mul]
  omega
theorem addP_none {a : Int} (h : InI a) (p : Pl) : addP a (zs p 0 0 0 0) = a := by
  rw [addP_zs, Int.zero_mul, Int.zero_mul, Int.zero_mul, Int.zero_mul]
  simpa using wrap_in h
theorem addH_none {a : Int} (h : InI a) (p : Pl) : addH a (zs p 0 0 0 0) = a := by
  rw [addH_zs, Int.zero_mul, Int.zero_mul, Int.zero_mul, Int.zero_mul]
  simpa using wrap_in h
/-- Marks add up. -/
theorem mkd_both (p : Pl) (f : Fe) (c0 c1 c2 c3 d0 d1 d2 d3 : Int) (h : 0 ≤ addP f.po (zs p c0 c1 c2 c3)) : mkdF p (mkdF p f c0 c1 c2 c3) d0 d1 d2 d3 = mkdF p f (c0 + d0) (c1 + d1) (c2 + d2) (c3 + d3) := by
  have e : low0 (addP f.po (zs p c0 c1 c2 c3)) = addP f.po (zs p c0 c1 c2 c3) := by unfold low0; rw [if_neg (by omega)]
  unfold mkdF
  simp only
  rw [e, addP_both, addH_both]
/-- The card of a number, and the fault. -/
def atC (p : Pl) (es : List Ent) (n : Int) : Hd × List Pt := if p.shut = true ∧ 1 ≤ n then (match es[(n - 1).toNat]? with | some e => (e.h, e.ps) | none => (Hd.none, [])) else (Hd.none, [])
def atX (p : Pl) (es : List Ent) (n : Int) : Int := if p.shut = true ∧ 1 ≤ n ∧ n ≤ (es.length : Int) then 0 else 6
/-- The places of a card's parts of a moment, from k on. -/
def plF : List Pt → Nat → Int → List Int
  | [], _, _ => []
  | q :: r, k, w => if q.wn = w then (k : Int) :: plF r (k + 1) w else plF r (k + 1) w
end Go.Proofs.Ytogpgldbbegniab
namespace Go.Proofs.Ytogpgldbbegniab
open Go.RowKit

theorem RJ.setTail {w : World} {b : Nat} {v : Value} {p : Pl} {cs : List Value} (f2 : p.nms.length = 9) (h : w.heap[b]? = some (.cells (Value.bool true :: .bool p.shut :: v :: (p.nms.map Value.string ++ cs)).toArray 85 (0, 0))) (i : Nat) (u : Value) : (w.setCell ⟨b, 12 + i, none⟩ u).heap[b]? = some (.cells (Value.bool true :: .bool p.shut :: v :: (p.nms.map Value.string ++ cs.set i u)).toArray 85 (0, 0)) := by
  rw [block_set h]
  congr 2
  rw [List.setIfInBounds_toArray]
  congr 1
  rw [show 12 + i = 9 + i + 1 + 1 + 1 by omega]
  simp only [List.set_cons_succ]
  rw [List.set_append_right _ _ (by simp [f2]), List.length_map, f2, show 9 + i - 9 = i by omega]
theorem RJ.setM {w : World} {b : Nat} {v : Value} {p : Pl} (h : RJ w b v p) {n : Nat} (hn : n < 5) (m : Mk) : RJ (st4 w b (12 + n * 4) m) b v { p with mks := p.mks.set n m } := by
  refine ⟨?_, h.nine, by simpa using h.five⟩
  have e := RJ.setTail h.nine (RJ.setTail h.nine (RJ.setTail h.nine (RJ.setTail h.nine (cs := mcells p.mks) h.lies (n * 4) (.int .u8 m.mi)) (n * 4 + 1) (.string m.nm)) (n * 4 + 2) (.int .i64 m.po)) (n * 4 + 3) (.int .i64 m.he)
  rw [mcells_set _ _ _ (by rw [h.five]; exact hn)] at e
  exact e
/-- No mark of these bears the name, and that of the number is free. -/
def NoM (p : Pl) (t : Nat) (s : ByteArray) (i : Nat) : Prop := ∀ (j : Nat) x, 1 ≤ j → j < i → p.mks[j]? = some x → ¬ x.nm = s ∧ (j = t → x.nm = ⟨#[]⟩)
theorem NoM.next {p : Pl} {t i : Nat} {s : ByteArray} {x : Mk} (h : NoM p t s i) (hx : p.mks[i]? = some x) (h1 : ¬ x.nm = s) (h2 : i = t → x.nm = ⟨#[]⟩) : NoM p t s (i + 1) := fun j y hj1 hj hy => by
  rcases (show j < i ∨ j = i from by omega) with hji | rfl
  · exact h j y hj1 hji hy
  · rw [hx] at hy
    obtain rfl := Option.some.inj hy
    exact ⟨h1, h2⟩
theorem maE_eq {p : Pl} {t : Nat} {s : ByteArray} {po he : Int} (hs : p.shut = false) (h1 : 1 ≤ t ∧ t ≤ 4 ∧ fF po = true ∧ fF he = true) (hn : nameOk s.data.toList = true) : maE p ⟨(t : Int), s, po, he⟩ = if ¬ (p.mks.getD t Mk.none).nm = ⟨#[]⟩ ∨ 0 ≤ pos (mnames p.mks) s then 5 else 0 := by
  unfold maE
  rw [if_neg (by simp [hs]), if_neg ?_, if_neg (by simp [hn])]
  · rfl
  · rintro (h | h | h | h)
    · have h' : (t : Int) < 1 := h
      omega
    · have h' : (4 : Int) < (t : Int) := h
      omega
    · rw [show fF po = false from h] at h1
      cases h1.2.2.1
    · rw [show fF he = false from h] at h1
      cases h1.2.2.2
theorem maE_hit {p : Pl} {t i : Nat} {s : ByteArray} {po he : Int} {x : Mk} (hs : p.shut = false) (h1 : 1 ≤ t ∧ t ≤ 4 ∧ fF po = true ∧ fF he = true) (hn : nameOk s.data.toList = true) (hx : p.mks[i]? = some x) (h : x.nm = s ∨ (i = t ∧ ¬ x.nm = ⟨#[]⟩)) : maE p ⟨(t : Int), s, po, he⟩ = 5 := by
  rw [maE_eq hs h1 hn, if_pos ?_]
  rcases h with rfl | ⟨rfl, h⟩
  · right
    apply Classical.byContradiction
    intro hc
    exact pos_no (Int.not_le.1 hc) (List.mem_of_getElem? (mnames_at hx))
  · left
    rw [List.getD_eq_getElem?_getD, hx]
    exact h
theorem maE_free {p : Pl} {t : Nat} {s : ByteArray} {po he : Int} (hs : p.shut = false) (h1 : 1 ≤ t ∧ t ≤ 4 ∧ fF po = true ∧ fF he = true) (hn : nameOk s.data.toList = true) (h5 : p.mks.length = 5) (hz : p.mks[0]? = some Mk.none) (h : NoM p t s 5) : maE p ⟨(t : Int), s, po, he⟩ = 0 := by
  rw [maE_eq hs h1 hn, if_neg ?_]
  rintro (h2 | h2)
  · obtain ⟨x, hx⟩ : ∃ x, p.mks[t]? = some x := ⟨_, List.getElem?_eq_getElem (by omega)⟩
    rw [List.getD_eq_getElem?_getD, hx] at h2
    exact h2 ((h t x h1.1 (by omega) hx).2 rfl)
  · have hm := pos_yes _ _ h2
    unfold mnames at hm
    rw [List.getElem?_map] at hm
    obtain ⟨x, hx, hxs⟩ := Option.map_eq_some_iff.1 hm
    have hl := (List.getElem?_eq_some_iff.1 hx).1
    by_cases h0 : (pos (mnames p.mks) s).toNat = 0
    · unfold mnames at h0
      rw [h0, hz] at hx
      obtain rfl := Option.some.inj hx
      rw [← hxs] at hn
      rw [show (Mk.none).nm = (⟨#[]⟩ : ByteArray) from rfl, empty_name] at hn
      cases hn
    · unfold mnames at h0
      exact (h _ x (by omega) (by omega) hx).1 hxs
theorem maP_mkd {p : Pl} (h : MkD p) (m : Mk) : MkD (maP p m) := by
  unfold maP
  by_cases h0 : maE p m = 0
  · rw [if_pos h0]
    have hm : 1 ≤ m.mi ∧ ¬ m.nm = ⟨#[]⟩ := by
      unfold maE at h0
      split at h0
      · omega
      · split at h0
        · omega
        · rename_i hr
          split at h0
          · omega
          · rename_i hn
            refine ⟨by omega, fun e => hn ?_⟩
            rw [e]
            rfl
    refine ⟨?_, fun x hx => ?_⟩
    · show (p.mks.set m.mi.toNat m)[0]? = _
      rw [List.getElem?_set_ne (by omega)]
      exact h.1
    · rcases List.mem_or_eq_of_mem_set hx with hx | rfl
      · exact h.2 x hx
      · exact Or.inr ⟨by omega, hm.2⟩
  · rw [if_neg h0]; exact h
set_option maxRecDepth 100000 in
set_option maxHeartbeats 8000000 in
theorem rmark_any (b : Nat) (v : Value) (p : Pl) (m : Mk) (w : World) (R : RJ w b v p) (h0 : 0 ≤ m.mi ∧ m.mi ≤ 255) (hD : MkD p) : Calls Try.prog 17 #[.pointer (some ⟨b, 0, none⟩), mv m] w fun e w' => e = .returned (.int .i64 (maE p m)) ∧ RJ w' b v (maP p m) ∧ w.grownBy w' (some b) := by
  obtain ⟨mi, nm, po, he⟩ := m
  obtain ⟨W1, hW1⟩ : ∃ W1, W1 = w.alloc (.cells #[.int .u8 mi, .string nm, .int .i64 po, .int .i64 he] 69) := ⟨_, rfl⟩
  have HG1 : Hid (w.grownBy W1 none) := by rw [hW1]; exact World.grownBy_alloc _ _ none
  have A : W1.heap[w.heap.size]? = some (.cells #[.int .u8 mi, .string nm, .int .i64 po, .int .i64 he] 69 (0, 0)) := by rw [hW1]; exact alloc_at w _ _
  have HA : Hid (W1.heap[w.heap.size]? = some (.cells #[.int .u8 mi, .string nm, .int .i64 po, .int .i64 he] 69 (0, 0))) := A
  have HR : Hid (RJ W1 b v p) := R.keep HG1.out
  have HD : Hid (MkD p) := hD
  have a0 := block_cell A 0
  have a1 := block_cell A 1
  have a2 := block_cell A 2
  have a3 := block_cell A 3
  have af := fun i => block_free A i
  have HE : Hid (w.grownBy W1 (some b)) := grown_own' HG1.out (grown_refl _ _)
  have c1 := HR.out.shut
  clear A R hD
  unfold mv
  cases hs : p.shut with
  | true =>
    rw [hs] at c1
    have e1 : maE p ⟨mi, nm, po, he⟩ = 7 := if_pos hs
    have e2 : maP p ⟨mi, nm, po, he⟩ = p := if_neg (by rw [e1]; decide)
    rw [e1, e2]
    clear e1 e2 hs
    go_enter Try.func17, Try.ntmps17
    go_upto_region 1 with fail
    rw [← hW1]
    clear hW1
    go_wp2_with fail
    refine (rnone_any b _ p W1 HR.out).mono ?_
    rintro e w1 ⟨rfl, h1⟩
    obtain rfl : W1 = w1 := h1.symm
    go_wp2
    go_ret
    exact ⟨rfl, HR.out, HE.out⟩
  | false =>
    rw [hs] at c1
    by_cases ht : mi < 1 ∨ 4 < mi ∨ fF po = false ∨ fF he = false
    · have e1 : maE p ⟨mi, nm, po, he⟩ = 2 := by unfold maE; rw [if_neg (by simp [hs]), if_pos ht]
      have e2 : maP p ⟨mi, nm, po, he⟩ = p := if_neg (by rw [e1]; decide)
      rw [e1, e2]
      clear e1 e2 hs
      rcases (show mi < 1 ∨ (¬ mi < 1 ∧ 4 < mi) ∨ (¬ mi < 1 ∧ ¬ 4 < mi ∧ po < -9) ∨ (¬ mi < 1 ∧ ¬ 4 < mi ∧ ¬ po < -9 ∧ 9 < po) ∨ (¬ mi < 1 ∧ ¬ 4 < mi ∧ ¬ po < -9 ∧ ¬ 9 < po ∧ he < -9) ∨ (¬ mi < 1 ∧ ¬ 4 < mi ∧ ¬ po < -9 ∧ ¬ 9 < po ∧ ¬ he < -9 ∧ 9 < he) by
        unfold fF at ht
        simp only [Bool.and_eq_false_iff, decide_eq_false_iff_not] at ht
        omega) with h | ⟨k1, h⟩ | ⟨k1, k2, h⟩ | ⟨k1, k2, k3, h⟩ | ⟨k1, k2, k3, k4, h⟩ | ⟨k1, k2, k3, k4, k5, h⟩
      all_goals
        clear ht h0
        go_enter Try.func17, Try.ntmps17
        go_upto_region 1 with fail
        rw [← hW1]
        clear hW1
        go_wp2_with fail
        refine (rnone_any b _ p W1 HR.out).mono ?_
        rintro e w1 ⟨rfl, h1⟩
        obtain rfl : W1 = w1 := h1.symm
        go_wp2
        go_ret
        exact ⟨rfl, HR.out, HE.out⟩
    · obtain ⟨k1, k2, k3, k4, k5, k6⟩ : ¬ mi < 1 ∧ ¬ 4 < mi ∧ ¬ po < -9 ∧ ¬ 9 < po ∧ ¬ he < -9 ∧ ¬ 9 < he := by
        unfold fF at ht
        simp only [Bool.and_eq_false_iff, decide_eq_false_iff_not] at ht
        omega
      have f1 : fF po = true := by unfold fF; simp; omega
      have f2 : fF he = true := by unfold fF; simp; omega
      cases hn : nameOk nm.data.toList with
      | false =>
        have e1 : maE p ⟨mi, nm, po, he⟩ = 4 := by unfold maE; rw [if_neg (by simp [hs]), if_neg ht, if_pos hn]
        have e2 : maP p ⟨mi, nm, po, he⟩ = p := if_neg (by rw [e1]; decide)
        have HN := r7name_any nm W1
        rw [hn] at HN
        rw [e1, e2]
        clear e1 e2 hs hn ht f1 f2 h0
        go_enter Try.func17, Try.ntmps17
        go_upto_region 1 with fail
        rw [← hW1]
        clear hW1
        go_wp2_with fail
        refine (rnone_any b _ p W1 HR.out).mono ?_
        rintro e w1 ⟨rfl, h1⟩
        obtain rfl : W1 = w1 := h1.symm
        go_wp2_with fail
        refine HN.mono ?_
        rintro e w1 ⟨rfl, h1⟩
        obtain rfl : W1 = w1 := h1.symm
        go_wp2
        go_ret
        exact ⟨rfl, HR.out, HE.out⟩
      | true =>
        have HN := r7name_any nm W1
        rw [hn] at HN
        obtain ⟨n, rfl⟩ := Int.eq_ofNat_of_zero_le h0.1
        have HNm : Hid (nameOk nm.data.toList = true) := hn
        have HSh : Hid (p.shut = false) := hs
        have HT : Hid (1 ≤ n ∧ n ≤ 4 ∧ fF po = true ∧ fF he = true) := ⟨by omega, by omega, f1, f2⟩
        have s5 : Small 5 := by unfold Small; decide
        clear hs hn ht f1 f2 h0
        go_enter Try.func17, Try.ntmps17
        go_upto_region 1 with fail
        rw [← hW1]
        clear hW1
        go_wp2_with fail
        refine (rnone_any b _ p W1 HR.out).mono ?_
        rintro e w1 ⟨rfl, h1⟩
        obtain rfl : W1 = w1 := h1.symm
        go_wp2_with fail
        refine HN.mono ?_
        rintro e w1 ⟨rfl, h1⟩
        obtain rfl : W1 = w1 := h1.symm
        clear HN k1 k2 k3 k4 k5 k6
        go_wp2_with fail
        go_loopw [5] (fun x5 wr => W1.grownBy wr none ∧ ∃ i : Nat, 1 ≤ i ∧ i ≤ 5 ∧ x5 = .int .i64 (i : Int) ∧ NoM p n nm i) (fun x5 _ => 5 - (intOf x5).toNat)
        case atStart => exact ⟨grown_refl _ _, 1, Nat.le_refl _, by decide, rfl, fun j x h1 h2 => absurd h2 (by omega)⟩
        case round =>
          obtain ⟨gr, i, hi1, hi5, rfl, hN⟩ := hrel
          have HNo : Hid (NoM p n nm i) := hN
          have HGr : Hid (W1.grownBy wr none) := gr
          have HRr : Hid (RJ wr b v p) := HR.out.keep gr
          have A2 := grown_keep gr HA.out (by simp)
          have HA2 : Hid (wr.heap[w.heap.size]? = some (.cells #[.int .u8 (n : Int), .string nm, .int .i64 po, .int .i64 he] 69 (0, 0))) := A2
          clear hN gr a0 a1 a2 a3 af c1
          have a0 := block_cell A2 0
          have a1 := block_cell A2 1
          have a2 := block_cell A2 2
          have a3 := block_cell A2 3
          clear A2
          rcases (show i < 5 ∨ i = 5 from by omega) with hil | hie
          · have i0 : (0 : Int) ≤ (i : Int) := by omega
            have i4 : (i : Int) ≤ 4 := by omega
            have i5 : (i : Int) < 5 := by omega
            have im : (i : Int) % 256 = (i : Int) := by omega
            obtain ⟨x, hx⟩ : ∃ x, p.mks[i]? = some x := ⟨_, List.getElem?_eq_getElem (by rw [HR.out.five]; exact hil)⟩
            obtain ⟨d0, d1, d2, d3⟩ := HRr.out.mark hx
            have hd := HD.out.2 x (List.mem_of_getElem? hx)
            have hz : x.mi = 0 ↔ x.nm = ⟨#[]⟩ := by
              rcases hd with h | h
              · rw [h]; exact ⟨fun _ => rfl, fun _ => rfl⟩
              · exact ⟨fun e => absurd e h.1, fun e => absurd e h.2⟩
            clear hd d2 d3
            by_cases hxs : x.nm = nm
            · have q1 := bytes_yes hxs
              have e1 : Hid (maE p ⟨(n : Int), nm, po, he⟩ = 5) := maE_hit HSh.out HT.out HNm.out hx (Or.inl hxs)
              have e2 : Hid (maP p ⟨(n : Int), nm, po, he⟩ = p) := if_neg (by rw [e1.out]; decide)
              by_cases hit : i = n
              · have q2 : ((i : Int) == (n : Int)) = true := by simp [hit]
                by_cases hx0 : x.mi = 0
                · have q3 : (x.mi != 0) = false := by simp [hx0]
                  clear hx hit hxs hz hx0
                  go_wp2_with fail
                  go_quiet (fail)
                  go_wp2
                  go_ret
                  exact ⟨ret_int e1.out.symm, by rw [e2.out]; exact HRr.out.keep (grown_drewN _ _ none), grown_own' (grown_trans HG1.out HGr.out) (grown_drewN _ _ _)⟩
                · have q3 : (x.mi != 0) = true := by simpa using hx0
                  clear hx hit hxs hz hx0
                  go_wp2_with fail
                  go_quiet (fail)
                  go_wp2
                  go_ret
                  exact ⟨ret_int e1.out.symm, by rw [e2.out]; exact HRr.out.keep (grown_drewN _ _ none), grown_own' (grown_trans HG1.out HGr.out) (grown_drewN _ _ _)⟩
              · have q2 : ((i : Int) == (n : Int)) = false := by simpa using (show ¬ (i : Int) = (n : Int) by omega)
                clear hx hit hxs hz
                go_wp2_with fail
                go_quiet (fail)
                go_wp2
                go_ret
                exact ⟨ret_int e1.out.symm, by rw [e2.out]; exact HRr.out.keep (grown_drewN _ _ none), grown_own' (grown_trans HG1.out HGr.out) (grown_drewN _ _ _)⟩
            · have q1 := bytes_no hxs
              by_cases hit : i = n
              · have q2 : ((i : Int) == (n : Int)) = true := by simp [hit]
                by_cases hx0 : x.mi = 0
                · have q3 : (x.mi != 0) = false := by simp [hx0]
                  have HN2 : Hid (NoM p n nm (i + 1)) := HNo.out.next hx hxs (fun _ => hz.1 hx0)
                  clear hx hit hxs hz hx0 hi1 hi5
                  go_wp2_with fail
                  go_quiet (fail)
                  go_wp2_with fail
                  go_roundw
                  case rel => exact ⟨grown_trans HGr.out (grown_drewN _ _ none), i + 1, by omega, hil, by first | rfl | (rw [s5.wrap hil]; rfl), HN2.out⟩
                  case measure => first | exact meas_next hil | (rw [s5.wrap hil]; exact meas_next hil)
                · have q3 : (x.mi != 0) = true := by simpa using hx0
                  have e1 : Hid (maE p ⟨(n : Int), nm, po, he⟩ = 5) := maE_hit HSh.out HT.out HNm.out hx (Or.inr ⟨hit, fun e => hx0 (hz.2 e)⟩)
                  have e2 : Hid (maP p ⟨(n : Int), nm, po, he⟩ = p) := if_neg (by rw [e1.out]; decide)
                  clear hx hit hxs hz hx0
                  go_wp2_with fail
                  go_quiet (fail)
                  go_wp2
                  go_ret
                  exact ⟨ret_int e1.out.symm, by rw [e2.out]; exact HRr.out.keep (grown_drewN _ _ none), grown_own' (grown_trans HG1.out HGr.out) (grown_drewN _ _ _)⟩
              · have q2 : ((i : Int) == (n : Int)) = false := by simpa using (show ¬ (i : Int) = (n : Int) by omega)
                have HN2 : Hid (NoM p n nm (i + 1)) := HNo.out.next hx hxs (fun e => absurd e hit)
                clear hx hit hxs hz hi1 hi5
                go_wp2_with fail
                go_quiet (fail)
                go_wp2_with fail
                go_roundw
                case rel => exact ⟨grown_trans HGr.out (grown_drewN _ _ none), i + 1, by omega, hil, by first | rfl | (rw [s5.wrap hil]; rfl), HN2.out⟩
                case measure => first | exact meas_next hil | (rw [s5.wrap hil]; exact meas_next hil)
          · have i4 : ¬ (i : Int) ≤ 4 := by omega
            have e1 : Hid (maE p ⟨(n : Int), nm, po, he⟩ = 0) := maE_free HSh.out HT.out HNm.out HR.out.five HD.out.1 (by rw [← hie]; exact HNo.out)
            have e2 : Hid (maP p ⟨(n : Int), nm, po, he⟩ = { p with mks := p.mks.set n ⟨(n : Int), nm, po, he⟩ }) := by
              show maP p ⟨(n : Int), nm, po, he⟩ = _
              unfold maP
              rw [if_pos e1.out]
              rfl
            have n5 : n < 5 := by have := HT.out.2.1; omega
            obtain ⟨d0, d1, d2, d3⟩ := HRr.out.mark (t := n) (getD_some (d := Mk.none) (by rw [HR.out.five]; exact n5))
            have df := fun i => HRr.out.free i
            have t0 : (0 : Int) ≤ (n : Int) := by omega
            have t5 : (n : Int) < 5 := by omega
            clear hie hi1 hi5
            go_wp2_with fail
            go_region
            go_wp2
            go_ret
            have F1 := (HRr.out.setM n5 ⟨(n : Int), nm, po, he⟩).keep (grown_drew _)
            have F2 := grown_own' (grown_trans HG1.out HGr.out) ((grown_st4 wr b (12 + n * 4) ⟨(n : Int), nm, po, he⟩).trans (grown_drew' _ _))
            unfold st4 at F1 F2
            exact ⟨ret_int e1.out.symm, by rw [e2.out]; exact F1, F2⟩
end Go.Proofs.Ytogpgldbbegniab
