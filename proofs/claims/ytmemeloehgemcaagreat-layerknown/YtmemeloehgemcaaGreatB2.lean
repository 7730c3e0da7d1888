/-
  Where a name's card stands; Has, Find; TraitName, MarkOf.
-/
import Derived.Test.YtmemeloehgemcaaGreatK7
namespace Go.Proofs.YtmemeloehgemcaaGreat
open Go.RowKit

def pos : List ByteArray → ByteArray → Int
  | [], _ => -1
  | x :: r, s => if x = s then 0 else if pos r s < 0 then -1 else pos r s + 1
theorem pos_low : ∀ (l : List ByteArray) (s : ByteArray), -1 ≤ pos l s ∧ pos l s < l.length
  | [], s => by simp [pos]
  | x :: r, s => by
    have := pos_low r s
    simp only [pos, List.length_cons]
    split
    · omega
    · split <;> omega
theorem pos_hit : ∀ (l : List ByteArray) (s : ByteArray) (k : Nat), l[k]? = some s → (∀ (j : Nat) x, j < k → l[j]? = some x → ¬ x = s) → pos l s = k
  | [], s, k, h, _ => by simp at h
  | x :: r, s, 0, h, _ => by
    obtain rfl : x = s := by simpa using h
    simp [pos]
  | x :: r, s, k + 1, h, hn => by
    have hx : ¬ x = s := hn 0 x (by omega) rfl
    have ih := pos_hit r s k (by simpa using h) (fun j y hj hy => hn (j + 1) y (by omega) (by simpa using hy))
    simp only [pos, if_neg hx, ih]
    rw [if_neg (by omega)]
    omega
theorem pos_miss : ∀ (l : List ByteArray) (s : ByteArray), (∀ (j : Nat) x, l[j]? = some x → ¬ x = s) → pos l s = -1
  | [], s, _ => rfl
  | x :: r, s, hn => by
    have ih := pos_miss r s (fun j y hy => hn (j + 1) y (by simpa using hy))
    simp only [pos, if_neg (hn 0 x rfl), ih]
    rfl
theorem pos_no {l : List ByteArray} {s : ByteArray} (h : pos l s < 0) : s ∉ l := by
  induction l with
  | nil => simp
  | cons x r ih =>
    simp only [pos] at h
    by_cases hx : x = s
    · rw [if_pos hx] at h; omega
    · rw [if_neg hx] at h
      by_cases hp : pos r s < 0
      · intro hm
        rcases List.mem_cons.1 hm with e | e
        · exact hx e.symm
        · exact ih hp e
      · rw [if_neg hp] at h; omega
def names (es : List Ent) : List ByteArray := es.map fun e => e.h.nm
theorem names_at {es : List Ent} {k : Nat} {e : Ent} (h : es[k]? = some e) : (names es)[k]? = some e.h.nm := by simp [names, h]
theorem names_len (es : List Ent) : (names es).length = es.length := by simp [names]
theorem bytes_no {s t : ByteArray} (h : ¬ s = t) : (s.toList == t.toList) = false := list_no h
theorem bytes_yes {s t : ByteArray} (h : s = t) : (s.toList == t.toList) = true := by subst h; simp
set_option maxRecDepth 100000 in
theorem placeF_any (h : Hd) (v : Value) (x : Nat) (s : ByteArray) (w : World) (hx : w.cell? ⟨x, 0, none⟩ = some (.string s)) (hl : ∃ a n c, v = .slice a n c) : Calls Tryz.prog 107 #[cv h v, .pointer (some ⟨x, 0, none⟩)] w fun e w' => e = .returned (.bool (decide (h.nm = s))) ∧ w.grownBy w' none := by
  obtain ⟨a, n, c, rfl⟩ := hl
  obtain ⟨nm, su, kd, co, po, he, tr, tk⟩ := h
  unfold cv
  simp only
  have hx' : (w.alloc (.cells (ccs ⟨nm, su, kd, co, po, he, tr, tk⟩ (.slice a n c)) 88)).cell? ⟨x, 0, none⟩ = some (.string s) := (World.grownBy_alloc _ _ none).cell hx (by simp)
  unfold ccs at hx'
  by_cases e : nm = s
  · have k := bytes_yes e
    rw [decide_eq_true e]
    clear e hx
    go_enter Tryz.func107, Tryz.ntmps107
    go_wp2
    go_ret
    exact ⟨rfl, World.grownBy_alloc _ _ none⟩
  · have k := bytes_no e
    rw [decide_eq_false e]
    clear e hx
    go_enter Tryz.func107, Tryz.ntmps107
    go_wp2
    go_ret
    exact ⟨rfl, World.grownBy_alloc _ _ none⟩
def NoneTo (es : List Ent) (s : ByteArray) (k : Nat) : Prop := ∀ (j : Nat) e, j < k → es[j]? = some e → ¬ e.h.nm = s
theorem noneTo_hit {es : List Ent} {s : ByteArray} {k : Nat} {e : Ent} (h : NoneTo es s k) (he : es[k]? = some e) (hs : e.h.nm = s) : pos (names es) s = k := by
  subst hs
  refine pos_hit _ _ _ (names_at he) fun j x hj hx => ?_
  simp only [names, List.getElem?_map, Option.map_eq_some_iff] at hx
  obtain ⟨a, ha, rfl⟩ := hx
  exact h j a hj ha
theorem noneTo_end {es : List Ent} {s : ByteArray} (h : NoneTo es s es.length) : pos (names es) s = -1 := by
  refine pos_miss _ _ fun j x hx => ?_
  simp only [names, List.getElem?_map, Option.map_eq_some_iff] at hx
  obtain ⟨a, ha, rfl⟩ := hx
  exact h j a (List.getElem?_eq_some_iff.1 ha).1 ha
theorem noneTo_next {es : List Ent} {s : ByteArray} {k : Nat} {e : Ent} (h : NoneTo es s k) (he : es[k]? = some e) (hs : ¬ e.h.nm = s) : NoneTo es s (k + 1) := fun j x hj hx => by
  rcases (show j < k ∨ j = k by omega) with hj | rfl
  · exact h j x hj hx
  · rw [he] at hx
    cases hx
    exact hs
def Slc (es : List Ent) : Prop := ∀ e ∈ es, ∃ a n c, e.v = .slice a n c
theorem Good.slc {ok : Nat → Prop} {w : World} {es : List Ent} (h : Good ok w es) : Slc es := fun e he => by
  obtain ⟨a, c, e1⟩ := (h e he).1.form
  exact ⟨a, _, c, e1⟩
set_option maxRecDepth 100000 in
set_option maxHeartbeats 2000000 in
theorem indexF_any (g o cap : Nat) (es : List Ent) (x : Nat) (s : ByteArray) (w : World) (hE : EsAt w g o es) (hs : Slc es) (hx : w.cell? ⟨x, 0, none⟩ = some (.string s)) (hm : es.length ≤ 64) : Calls Tryz.prog 106 #[.slice (some ⟨g, o, none⟩) es.length cap, .func (.func 107) #[] #[.pointer (some ⟨x, 0, none⟩)]] w fun e w' => e = .returned (.int .i64 (pos (names es) s)) ∧ w.grownBy w' none := by
  have HE : Hid (EsAt w g o es) := hE
  have HS : Hid (Slc es) := hs
  have HX : Hid (w.cell? ⟨x, 0, none⟩ = some (.string s)) := hx
  have hm' : Small es.length := by unfold Small; omega
  clear hE hs hx hm
  go_enter Tryz.func106, Tryz.ntmps106
  go_wp2_with fail
  go_loopw [8] (fun i wr => ∃ k : Nat, k ≤ es.length ∧ i = .int .i64 k ∧ NoneTo es s k ∧ w.grownBy wr none) (fun i _ => es.length - (intOf i).toNat)
  case atStart => exact ⟨0, Nat.zero_le _, rfl, fun j e hj => by omega, grown_refl _ _⟩
  case round =>
    obtain ⟨k, hk, rfl, R, G⟩ := hrel
    have HG : Hid (w.grownBy wr none) := G
    have HR : Hid (NoneTo es s k) := R
    clear G R
    rcases (show k = es.length ∨ k < es.length from by omega) with hke | hlt
    · have HP : Hid (pos (names es) s = -1) := noneTo_end (hke ▸ HR.out)
      clear HR
      subst hke
      go_wp2
      go_ret
      exact ⟨ret_int HP.out.symm, HG.out⟩
    · have hlt' : (k : Int) < (es.length : Int) := by omega
      have hk0 : (0 : Int) ≤ (k : Int) := by omega
      have hw := hm'.wrap hlt
      obtain ⟨e, he⟩ : ∃ e, es[k]? = some e := ⟨_, List.getElem?_eq_getElem hlt⟩
      obtain ⟨a, n, c, hv⟩ := HS.out e (List.mem_of_getElem? he)
      have D := (HE.out k e he).keep HG.out
      rw [hv] at D
      obtain ⟨d0, d1, d2, d3, d4, d5, d6, d7, d8⟩ := D
      have HK : Hid (wr.cell? ⟨x, 0, none⟩ = some (.string s)) := HG.out.cell HX.out (by simp)
      by_cases hq : e.h.nm = s
      · have HP : Hid (pos (names es) s = k) := noneTo_hit HR.out he hq
        have hd : decide (e.h.nm = s) = true := decide_eq_true hq
        clear HR he hq hv
        go_wp2_with (first | (go_at_call 107; refine (placeF_any e.h (.slice a n c) x s _ HK.out ⟨a, n, c, rfl⟩).mono ?_; rintro e1 w1 ⟨rfl, g1⟩; rw [hd]) | fail)
        go_ret
        exact ⟨ret_int HP.out.symm, grown_trans HG.out g1⟩
      · have HN : Hid (NoneTo es s (k + 1)) := noneTo_next HR.out he hq
        have hd : decide (e.h.nm = s) = false := decide_eq_false hq
        clear HR he hq hv
        go_wp2_with (first | (go_at_call 107; refine (placeF_any e.h (.slice a n c) x s _ HK.out ⟨a, n, c, rfl⟩).mono ?_; rintro e1 w1 ⟨rfl, g1⟩; rw [hd]) | fail)
        go_roundw
        case rel => exact ⟨k + 1, hlt, by first | rfl | (rw [hw]; rfl), HN.out, grown_trans HG.out g1⟩
        case measure => first | exact meas_next hlt | (rw [hw]; exact meas_next hlt)
set_option maxRecDepth 100000 in
theorem place_yes (b : Nat) (es : List Ent) (p : Pl) (s : ByteArray) (w : World) (hB : BkIn w b es p) (hs : Slc es) : Calls Tryz.prog 59 #[.pointer (some ⟨b, 0, none⟩), .string s] w fun e w' => e = .returned (.int .i64 (pos (names es) s)) ∧ w.grownBy w' none := by
  have hmf : ∀ fn bound caps ww, (Instr.makeFunc fn bound caps).run Tryz.prog ww = .ok (.func fn bound caps) ww := fun _ _ _ _ => rfl
  have HB : Hid (BkIn (w.alloc (.cells #[.string s] 9)) b es p) := hB.keep (World.grownBy_alloc _ _ none)
  have HX : Hid ((w.alloc (.cells #[.string s] 9)).cell? ⟨w.heap.size, 0, none⟩ = some (.string s)) := block_cell (alloc_at w #[.string s] 9) 0
  clear hB
  go_enter Tryz.func59, Tryz.ntmps59
  go_wp2_with (first | (go_at_call 95; refine (list_yes b es.length HB.out.len p _ HB.out.flags).mono ?_; rintro e w1 ⟨rfl, g1, _⟩) | (go_at_call 106; refine (indexF_any b 0 64 es _ s _ (HB.out.row.keep g1) hs (g1.cell HX.out (by simp)) HB.out.len).mono ?_; rintro e w2 ⟨rfl, g2⟩) | fail)
  go_ret
  exact ⟨rfl, grown_trans (grown_trans (World.grownBy_alloc _ _ none) g1) g2⟩
theorem has_yes (b : Nat) (es : List Ent) (p : Pl) (s : ByteArray) (w : World) (hB : BkIn w b es p) (hs : Slc es) : Calls Tryz.prog 81 #[.pointer (some ⟨b, 0, none⟩), .string s] w fun e w' => e = .returned (.bool (decide (0 ≤ pos (names es) s))) ∧ w.grownBy w' none := by
  go_enter Tryz.func81, Tryz.ntmps81
  go_wp2_with (first | (go_at_call 59; refine (place_yes b es p s _ hB hs).mono ?_; rintro e w1 ⟨rfl, g1⟩) | fail)
  go_ret
  exact ⟨rfl, g1⟩
def fndN (sh : Bool) (q : Int) : Int := if sh = true ∧ 0 ≤ q then q + 1 else 0
def fndE (sh : Bool) (q : Int) : Int := if sh = true ∧ 0 ≤ q then 0 else 6
theorem find_yes (b : Nat) (es : List Ent) (p : Pl) (s : ByteArray) (w : World) (hB : BkIn w b es p) (hs : Slc es) : Calls Tryz.prog 18 #[.pointer (some ⟨b, 0, none⟩), .string s] w fun e w' => e = .returned (.tuple #[.int .i64 (fndN p.shut (pos (names es) s)), .int .i64 (fndE p.shut (pos (names es) s))]) ∧ w.grownBy w' none := by
  have HB : Hid (BkIn w b es p) := hB
  have HQ := pos_low (names es) s
  have HL := hB.len
  rw [names_len] at HQ
  have HP := place_yes b es p s w hB hs
  obtain ⟨q, hq⟩ : ∃ q, q = pos (names es) s := ⟨_, rfl⟩
  rw [← hq] at HQ HP ⊢
  clear hq hB
  have hw : wrap64 (q + 1) = q + 1 := by unfold wrap64; omega
  obtain ⟨sh, hsh⟩ : ∃ sh, p.shut = sh := ⟨_, rfl⟩
  rw [hsh]
  cases sh with
  | false =>
    go_enter Tryz.func18, Tryz.ntmps18
    go_wp2_with (first | (go_at_call 59; refine HP.mono ?_; rintro e w1 ⟨rfl, g1⟩; have F1 := (HB.out.keep g1).flags; have c1 := F1.shut; rw [hsh] at c1; have HF1 : Hid (Flags w1 b es.length p) := F1; clear F1) | (go_at_call 60; refine (isBook_yes b es.length p _ HF1.out).mono ?_; rintro e w2 ⟨rfl, h2⟩; obtain rfl : w1 = w2 := h2.symm) | fail)
    go_ret2
    exact ⟨rfl, g1⟩
  | true =>
    by_cases h0 : q < 0
    · have e1 : fndN true q = 0 := if_neg (by omega)
      have e2 : fndE true q = 6 := if_neg (by omega)
      rw [e1, e2]
      go_enter Tryz.func18, Tryz.ntmps18
      go_wp2_with (first | (go_at_call 59; refine HP.mono ?_; rintro e w1 ⟨rfl, g1⟩; have F1 := (HB.out.keep g1).flags; have c1 := F1.shut; rw [hsh] at c1; have HF1 : Hid (Flags w1 b es.length p) := F1; clear F1) | (go_at_call 60; refine (isBook_yes b es.length p _ HF1.out).mono ?_; rintro e w2 ⟨rfl, h2⟩; obtain rfl : w1 = w2 := h2.symm) | fail)
      go_ret2
      exact ⟨rfl, g1⟩
    · have e1 : fndN true q = q + 1 := if_pos ⟨rfl, by omega⟩
      have e2 : fndE true q = 0 := if_pos ⟨rfl, by omega⟩
      rw [e1, e2]
      have h0' : 0 ≤ q := by omega
      clear h0
      go_enter Tryz.func18, Tryz.ntmps18
      go_wp2_with (first | (go_at_call 59; refine HP.mono ?_; rintro e w1 ⟨rfl, g1⟩; have F1 := (HB.out.keep g1).flags; have c1 := F1.shut; rw [hsh] at c1; have HF1 : Hid (Flags w1 b es.length p) := F1; clear F1) | (go_at_call 60; refine (isBook_yes b es.length p _ HF1.out).mono ?_; rintro e w2 ⟨rfl, h2⟩; obtain rfl : w1 = w2 := h2.symm) | fail)
      go_ret2
      first | exact ⟨rfl, g1⟩ | exact ⟨by rw [hw], g1⟩
end Go.Proofs.YtmemeloehgemcaaGreat
