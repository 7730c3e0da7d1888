/-
  The document's own book: Trait, TraitName.
  The document's own book: MarkOf, Mark.
  Things, plainly: features, what marks add, the places of a card's parts of a moment.
-/
import Derived.Test.YtogpgldbbegniaaM16
import Derived.Test.YtogpgldbbegniaaM13
namespace Go.Proofs.Ytogpgldbbegniaa
open Go.RowKit

theorem RJ.setN {w : World} {b : Nat} {v : Value} {p : Pl} (h : RJ w b v p) {t : Nat} (ht : t < 9) (s : ByteArray) : RJ (w.setCell ⟨b, 3 + t, none⟩ (.string s)) b v { p with nms := p.nms.set t s } := by
  refine ⟨?_, by simpa using h.nine, h.five⟩
  rw [block_set h.lies]
  congr 2
  rw [List.setIfInBounds_toArray]
  congr 1
  unfold rcells
  rw [show 3 + t = t + 1 + 1 + 1 by omega]
  simp only [List.set_cons_succ]
  rw [List.set_append_left _ _ (by simp [h.nine]; omega), List.map_set]
/-- No name of these is the name, and that of the trait is free. -/
def NoT (p : Pl) (t : Nat) (s : ByteArray) (i : Nat) : Prop := ∀ (j : Nat) x, 1 ≤ j → j < i → p.nms[j]? = some x → ¬ x = s ∧ (j = t → x = ⟨#[]⟩)
theorem empty_name : nameOk (ByteArray.mk #[]).data.toList = false := rfl
theorem trE_hit {p : Pl} {t i : Nat} {s x : ByteArray} (hs : p.shut = false) (h1 : 1 ≤ t) (h8 : t ≤ 8) (hn : nameOk s.data.toList = true) (hx : p.nms[i]? = some x) (h : x = s ∨ (i = t ∧ ¬ x = ⟨#[]⟩)) : trE p (t : Int) s = 5 := by
  unfold trE
  rw [if_neg (by simp [hs]), if_neg (by omega), if_neg (by simp [hn]), if_pos ?_]
  rcases h with rfl | ⟨rfl, h⟩
  · right
    apply Classical.byContradiction
    intro hc
    exact pos_no (Int.not_le.1 hc) (List.mem_of_getElem? hx)
  · left
    rw [Int.toNat_natCast, List.getD_eq_getElem?_getD, hx]
    exact h
theorem trE_free {p : Pl} {t : Nat} {s : ByteArray} (hs : p.shut = false) (h1 : 1 ≤ t) (h8 : t ≤ 8) (hn : nameOk s.data.toList = true) (h9 : p.nms.length = 9) (hz : p.nms[0]? = some ⟨#[]⟩) (h : NoT p t s 9) : trE p (t : Int) s = 0 := by
  unfold trE
  rw [if_neg (by simp [hs]), if_neg (by omega), if_neg (by simp [hn]), if_neg ?_]
  rintro (h2 | h2)
  · obtain ⟨x, hx⟩ : ∃ x, p.nms[t]? = some x := ⟨_, List.getElem?_eq_getElem (by omega)⟩
    rw [Int.toNat_natCast, List.getD_eq_getElem?_getD, hx] at h2
    exact h2 ((h t x h1 (by omega) hx).2 rfl)
  · have hm := pos_yes _ _ h2
    have hl := (List.getElem?_eq_some_iff.1 hm).1
    by_cases h0 : (pos p.nms s).toNat = 0
    · rw [h0, hz] at hm
      obtain rfl := Option.some.inj hm
      rw [empty_name] at hn
      cases hn
    · exact (h _ s (by omega) (by omega) hm).1 rfl
theorem NoT.next {p : Pl} {t i : Nat} {s x : ByteArray} (h : NoT p t s i) (hx : p.nms[i]? = some x) (h1 : ¬ x = s) (h2 : i = t → x = ⟨#[]⟩) : NoT p t s (i + 1) := fun j y hj1 hj hy => by
  rcases (show j < i ∨ j = i from by omega) with hji | rfl
  · exact h j y hj1 hji hy
  · rw [hx] at hy
    obtain rfl := Option.some.inj hy
    exact ⟨h1, h2⟩
end Go.Proofs.Ytogpgldbbegniaa
namespace Go.Proofs.Ytogpgldbbegniaa
open Go.RowKit

/-- What is marked is marked whole. -/
def MkD (p : Pl) : Prop := p.mks[0]? = some Mk.none ∧ ∀ m ∈ p.mks, m = Mk.none ∨ (¬ m.mi = 0 ∧ ¬ m.nm = ⟨#[]⟩)
set_option maxRecDepth 100000 in
set_option maxHeartbeats 2000000 in
theorem rmarkOf_any (b : Nat) (v : Value) (p : Pl) (t : Nat) (w : World) (R : RJ w b v p) (ht : t ≤ 255) (hD : MkD p) : Calls Try.prog 58 #[.pointer (some ⟨b, 0, none⟩), .int .u8 (t : Int)] w fun e w' => e = .returned (.tuple #[mv (moM p (t : Int)), .bool (moB p (t : Int))]) ∧ w.grownBy w' none := by
  obtain ⟨W1, hW1⟩ : ∃ W1, W1 = w.alloc (.cells #[.int .u8 0, .string ⟨#[]⟩, .int .i64 0, .int .i64 0] 74) := ⟨_, rfl⟩
  have HG1 : Hid (w.grownBy W1 none) := by rw [hW1]; exact World.grownBy_alloc _ _ none
  have A : W1.heap[w.heap.size]? = some (.cells #[.int .u8 0, .string ⟨#[]⟩, .int .i64 0, .int .i64 0] 74 (0, 0)) := by rw [hW1]; exact alloc_at w #[.int .u8 0, .string ⟨#[]⟩, .int .i64 0, .int .i64 0] 74
  have HR : Hid (RJ W1 b v p) := R.keep HG1.out
  have c0 := block_cell A 0
  have c1 := block_cell A 1
  have c2 := block_cell A 2
  have c3 := block_cell A 3
  have cf := fun i => block_free A i
  clear A R
  by_cases hr : t < 1 ∨ 4 < t
  · have e1 : moM p (t : Int) = Mk.none := by
      unfold moM
      by_cases h9 : (t : Int) < 5
      · rw [if_pos h9, show (t : Int).toNat = 0 by omega, List.getD_eq_getElem?_getD, hD.1]
        rfl
      · rw [if_neg h9]
    have e2 : moB p (t : Int) = false := by unfold moB; rw [e1]; rfl
    rw [e1, e2]
    clear e1 e2 hD
    rcases (show (t : Int) < 1 ∨ (¬ (t : Int) < 1 ∧ (4 : Int) < (t : Int)) by omega) with h | ⟨h, h'⟩
    all_goals
      clear hr
      go_enter Try.func58, Try.ntmps58
      go_upto_region 1 with fail
      rw [← hW1]
      clear hW1
      go_wp2_with (first | (go_at_call 57; refine (rnone_any b _ p _ HR.out).mono ?_; rintro e w1 ⟨rfl, h1⟩; obtain rfl : W1 = w1 := h1.symm) | fail)
      refine bodyPost_ret (v := .tuple #[mv Mk.none, .bool false]) (by simp [results, Try.results58, go_sem, mv, Mk.none, c0, c1, c2, c3]) rfl ⟨rfl, ?_⟩
      exact grown_own HG1.out ((((grown_set _ _ _ _).trans (grown_set _ _ _ _)).trans (grown_set _ _ _ _)).trans (grown_set _ _ _ _)) (fun x e => by cases e; exact Nat.le_refl _)
  · have t1 : ¬ (t : Int) < 1 := by omega
    have t4 : ¬ (4 : Int) < (t : Int) := by omega
    have t0 : (0 : Int) ≤ (t : Int) := by omega
    have t5 : (t : Int) < 5 := by omega
    obtain ⟨m, hm⟩ : ∃ m, p.mks[t]? = some m := ⟨_, List.getElem?_eq_getElem (by rw [HR.out.five]; omega)⟩
    have e1 : moM p (t : Int) = m := by unfold moM; rw [if_pos t5, Int.toNat_natCast, List.getD_eq_getElem?_getD, hm]; rfl
    have e2 : moB p (t : Int) = !decide (m.nm = ⟨#[]⟩) := by unfold moB; rw [e1]
    have hd := hD.2 m (List.mem_of_getElem? hm)
    obtain ⟨d0, d1, d2, d3⟩ := HR.out.mark hm
    rw [e1, e2]
    clear e1 e2 hm hD hr ht
    obtain ⟨mi, nm, po, he⟩ := m
    simp only at d0 d1 d2 d3 hd ⊢
    by_cases hq : nm = ⟨#[]⟩
    · have hN : (⟨mi, nm, po, he⟩ : Mk) = Mk.none := by
        rcases hd with h | h
        · exact h
        · exact absurd hq h.2
      rw [decide_eq_true hq, hN]
      unfold Mk.none at hN
      injection hN with h1 h2 h3 h4
      subst h1 h2 h3 h4
      clear hd hq
      go_enter Try.func58, Try.ntmps58
      go_upto_region 1 with fail
      rw [← hW1]
      clear hW1
      go_wp2_with (first | (go_at_call 57; refine (rnone_any b _ p _ HR.out).mono ?_; rintro e w1 ⟨rfl, h1⟩; obtain rfl : W1 = w1 := h1.symm) | fail)
      refine bodyPost_ret (v := .tuple #[mv Mk.none, .bool false]) (by simp [results, Try.results58, go_sem, mv, Mk.none, c0, c1, c2, c3]) rfl ⟨rfl, ?_⟩
      exact grown_own HG1.out ((((grown_set _ _ _ _).trans (grown_set _ _ _ _)).trans (grown_set _ _ _ _)).trans (grown_set _ _ _ _)) (fun x e => by cases e; exact Nat.le_refl _)
    · have hN : ¬ mi = 0 := by
        rcases hd with h | h
        · unfold Mk.none at h
          injection h with h1 h2 h3 h4
          exact absurd h2 hq
        · exact h.1
      have q0 : (mi == 0) = false := by simpa using hN
      rw [decide_eq_false hq]
      clear hd hq hN
      go_enter Try.func58, Try.ntmps58
      go_upto_region 1 with fail
      rw [← hW1]
      clear hW1
      go_wp2_with (first | (go_at_call 57; refine (rnone_any b _ p _ HR.out).mono ?_; rintro e w1 ⟨rfl, h1⟩; obtain rfl : W1 = w1 := h1.symm) | fail)
      refine bodyPost_ret (v := .tuple #[mv ⟨mi, nm, po, he⟩, .bool true]) (by simp [results, Try.results58, go_sem, mv, c0, c1, c2, c3]) rfl ⟨rfl, ?_⟩
      exact grown_own HG1.out ((((grown_set _ _ _ _).trans (grown_set _ _ _ _)).trans (grown_set _ _ _ _)).trans (grown_set _ _ _ _)) (fun x e => by cases e; exact Nat.le_refl _)
end Go.Proofs.Ytogpgldbbegniaa
namespace Go.Proofs.Ytogpgldbbegniaa
open Go.RowKit

/-- Features. -/
structure Fe where
  ho : Int
  su : Int
  tr : Int
  po : Int
  he : Int
def Fe.none : Fe := ⟨0, 0, 0, 0, 0⟩
def fev (f : Fe) : Value := .agg #[.int .i64 f.ho, .int .u8 f.su, .int .u16 f.tr, .int .i64 f.po, .int .i64 f.he]
def fcs (f : Fe) : Array Value := #[.int .i64 f.ho, .int .u8 f.su, .int .u16 f.tr, .int .i64 f.po, .int .i64 f.he]
/-- A number that an int holds. -/
def InI (a : Int) : Prop := -9223372036854775808 ≤ a ∧ a ≤ 9223372036854775807
theorem inI_wrap (a : Int) : InI (wrap64 a) := by unfold InI wrap64; omega
theorem wrap_in {a : Int} (h : InI a) : wrap64 a = a := by unfold InI at h; unfold wrap64; omega
theorem wrap_addR (a b : Int) : wrap64 (a + wrap64 b) = wrap64 (a + b) := by unfold wrap64; omega
theorem wrap_addL (a b : Int) : wrap64 (wrap64 a + b) = wrap64 (a + b) := by unfold wrap64; omega
/-- So many of one mark added. -/
def adw (a c m : Int) : Int := wrap64 (a + wrap64 (c * m))
theorem adw_eq (a c m : Int) : adw a c m = wrap64 (a + c * m) := wrap_addR _ _
theorem adw_zero {a : Int} (c : Int) (h : InI a) : adw a c 0 = a := by rw [adw_eq, Int.mul_zero, Int.add_zero, wrap_in h]
def addP (a : Int) (l : List (Int × Mk)) : Int := l.foldl (fun a x => adw a x.1 x.2.po) a
def addH (a : Int) (l : List (Int × Mk)) : Int := l.foldl (fun a x => adw a x.1 x.2.he) a
theorem addP_snoc (a : Int) (l : List (Int × Mk)) (x : Int × Mk) : addP a (l ++ [x]) = adw (addP a l) x.1 x.2.po := by unfold addP; rw [List.foldl_append]; rfl
theorem addH_snoc (a : Int) (l : List (Int × Mk)) (x : Int × Mk) : addH a (l ++ [x]) = adw (addH a l) x.1 x.2.he := by unfold addH; rw [List.foldl_append]; rfl
theorem addP_in {a : Int} (h : InI a) : ∀ l : List (Int × Mk), InI (addP a l)
  | [] => h
  | x :: l => addP_in (a := adw a x.1 x.2.po) (inI_wrap _) l
theorem addH_in {a : Int} (h : InI a) : ∀ l : List (Int × Mk), InI (addH a l)
  | [] => h
  | x :: l => addH_in (a := adw a x.1 x.2.he) (inI_wrap _) l
/-- How many there are of each mark, and what one of it adds. -/
def zs (p : Pl) (c0 c1 c2 c3 : Int) : List (Int × Mk) := [(c0, moM p 1), (c1, moM p 2), (c2, moM p 3), (c3, moM p 4)]
def low0 (a : Int) : Int := if a < 0 then 0 else a
/-- What Marked tells. -/
def mkdF (p : Pl) (f : Fe) (c0 c1 c2 c3 : Int) : Fe := ⟨f.ho, f.su, f.tr, low0 (addP f.po (zs p c0 c1 c2 c3)), addH f.he (zs p c0 c1 c2 c3)⟩
def okC (c : Int) : Prop := 0 ≤ c ∧ c ≤ 99
def okCs (c0 c1 c2 c3 : Int) : Prop := okC c0 ∧ okC c1 ∧ okC c2 ∧ okC c3
/-- A mark that the book has not adds nothing. -/
theorem moM_no {p : Pl} (hD : MkD p) {t : Int} (h : moB p t = false) : (moM p t).po = 0 ∧ (moM p t).he = 0 := by
  have hn : (moM p t).nm = ⟨#[]⟩ := by unfold moB at h; simpa using h
  have hm : moM p t = Mk.none ∨ moM p t ∈ p.mks := by
    unfold moM
    split
    · rw [List.getD_eq_getElem?_getD]
      cases hk : p.mks[t.toNat]? with
      | none => exact Or.inl rfl
      | some m => exact Or.inr (List.mem_of_getElem? hk)
    · exact Or.inl rfl
  rcases hm with hm | hm
  · rw [hm]; exact ⟨rfl, rfl⟩
  · rcases hD.2 _ hm with h1 | h1
    · rw [h1]; exact ⟨rfl, rfl⟩
    · exact absurd hn h1.2
/-- The sum, in one. -/
theorem addP_zs (p : Pl) (a c0 c1 c2 c3 : Int) : addP a (zs p c0 c1 c2 c3) = wrap64 (a + (c0 * (moM p 1).po + c1 * (moM p 2).po + c2 * (moM p 3).po + c3 * (moM p 4).po)) := by
  show adw (adw (adw (adw a c0 _) c1 _) c2 _) c3 _ = _
  rw [adw_eq, adw_eq, adw_eq, adw_eq, wrap_addL, Int.add_assoc, wrap_addL, Int.add_assoc, wrap_addL]
  congr 1
  simp only
  omega
theorem addH_zs (p : Pl) (a c0 c1 c2 c3 : Int) : addH a (zs p c0 c1 c2 c3) = wrap64 (a + (c0 * (moM p 1).he + c1 * (moM p 2).he + c2 * (moM p 3).he + c3 * (moM p 4).he)) := by
  show adw (adw (adw (adw a c0 _) c1 _) c2 _) c3 _ = _
  rw [adw_eq, adw_eq, adw_eq, adw_eq, wrap_addL, Int.add_assoc, wrap_addL, Int.add_assoc, wrap_addL]
  congr 1
  simp only
  omega
theorem addP_both (p : Pl) (a c0 c1 c2 c3 d0 d1 d2 d3 : Int) : addP (addP a (zs p c0 c1 c2 c3)) (zs p d0 d1 d2 d3) = addP a (zs p (c0 + d0) (c1 + d1) (c2 + d2) (c3 + d3)) := by
  rw [addP_zs, addP_zs, addP_zs, wrap_addL]
  congr 1
  rw [Int.add_mul, Int.add_mul, Int.add_mul, Int.add_mul]
  omega
theorem addH_both (p : Pl) (a c0 c1 c2 c3 d0 d1 d2 d3 : Int) : addH (addH a (zs p c0 c1 c2 c3)) (zs p d0 d1 d2 d3) = addH a (zs p (c0 + d0) (c1 + d1) (c2 + d2) (c3 + d3)) := by
  rw [addH_zs, addH_zs, addH_zs, wrap_addL]
  congr 1
  rw [Int.add_mul, Int.add_mul, Int.add_mul, Int.add_mul]
  omega
theorem addP_none {a : Int} (h : InI a) (p : Pl) : addP a (zs p 0 0 0 0) = a := by
  rw [addP_zs, Int.zero_mul, Int.zero_mul, Int.zero_mul, Int.zero_mul]
  simpa using wrap_in h
theorem addH_none {a : Int} (h : InI a) (p : Pl) : addH a (zs p 0 0 0 0) = a := by
  rw [addH_zs, Int.zero_mul, Int.zero_mul, Int.zero_mul, Int.zero_mul]
  simpa using wrap_in h
/-- Marks add up. -/
theorem mkd_both (p : Pl) (f : Fe) (c0 c1 c2 c3 d0 d1 d2 d3 : Int) (h : 0 ≤ addP f.po (zs p c0 c1 c2 c3)) : mkdF p (mkdF p f c0 c1 c2 c3) d0 d1 d2 d3 = mkdF p f (c0 + d0) (c1 + d1) (c2 + d2) (c3 + d3) := by
  have e : low0 (addP f.po (zs p c0 c1 c2 c3)) = addP f.po (zs p c0 c1 c2 c3) := by unfold low0; rw [if_neg (by omega)]
  unfold mkdF
  simp only
  rw [e, addP_both, addH_both]
/-- The card of a number, and the fault. -/
def atC (p : Pl) (es : List Ent) (n : Int) : Hd × List Pt := if p.shut = true ∧ 1 ≤ n then (match es[(n - 1).toNat]? with | some e => (e.h, e.ps) | none => (Hd.none, [])) else (Hd.none, [])
def atX (p : Pl) (es : List Ent) (n : Int) : Int := if p.shut = true ∧ 1 ≤ n ∧ n ≤ (es.length : Int) then 0 else 6
/-- The places of a card's parts of a moment, from k on. -/
def plF : List Pt → Nat → Int → List Int
  | [], _, _ => []
  | q :: r, k, w => if q.wn = w then (k : Int) :: plF r (k + 1) w else plF r (k + 1) w
end Go.Proofs.Ytogpgldbbegniaa
