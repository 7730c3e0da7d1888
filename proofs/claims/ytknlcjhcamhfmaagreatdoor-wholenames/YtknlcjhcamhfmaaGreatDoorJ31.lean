/-
  A book filled with the cards of a suit, in any order, plainly.
  Cards of a suit in a block of their own, beside books: what a walk keeps of them, in general.
  trait.Name of a trait, out of its table.
-/
import Derived.Test.YtknlcjhcamhfmaaGreatDoorJ20
import Derived.Test.YtknlcjhcamhfmaaGreatDoorOrdP
import Derived.Deep.CutRange
import Derived.Deep.CutBlock
import Derived.Deep.MidRow
import Derived.Test.YtknlcjhcamhfmaaGreatDoorJ0
namespace Go.Proofs.YtknlcjhcamhfmaaGreatDoor
open Go.RowKit

/-- Cards that may be, with unlike names, and the row of them in the order of a book. -/
structure SpOk (sp : List (Hd × List Pt)) (F : List Ent) : Prop where
  chk : ∀ x ∈ sp, cchk (x.1.with x.2) = 0
  four : ∀ x ∈ sp, x.2.length ≤ 4
  nod : (sp.map fun x => x.1.nm).Nodup
  few : sp.length < 64
  srt : Srt F
  perm : (F.map fun e => (e.h, e.ps)).Perm sp
theorem srt_of {F : List Ent} (h : (F.map fun e => e.h).Pairwise fun a b => ord a b < 0) : Srt F := by
  unfold Srt
  rw [List.pairwise_map] at h
  exact h.imp fun hab => (ord_lt _ _).1 hab
/-- The cards, in any order. -/
structure Crs (sp : List (Hd × List Pt)) (es : List Ent) : Prop where
  len : es.length = sp.length
  perm : (es.map fun e => (e.h, e.ps)).Perm sp
theorem Crs.of {sp : List (Hd × List Pt)} {es : List Ent} (h : es.map (fun e => (e.h, e.ps)) = sp) : Crs sp es := ⟨by rw [← h]; simp, by rw [h]⟩
theorem Crs.mem {sp : List (Hd × List Pt)} {es : List Ent} (h : Crs sp es) {e : Ent} (he : e ∈ es) : (e.h, e.ps) ∈ sp := h.perm.mem_iff.1 (List.mem_map.2 ⟨e, he, rfl⟩)
theorem Crs.has {sp : List (Hd × List Pt)} {es : List Ent} (h : Crs sp es) {x : Hd × List Pt} (hx : x ∈ sp) : ∃ e ∈ es, (e.h, e.ps) = x := by
  obtain ⟨e, he, h1⟩ := List.mem_map.1 (h.perm.mem_iff.2 hx)
  exact ⟨e, he, h1⟩
theorem Crs.chk {sp : List (Hd × List Pt)} {F es : List Ent} (h : Crs sp es) (S : SpOk sp F) {e : Ent} (he : e ∈ es) : cchk e.cd = 0 := S.chk _ (h.mem he)
theorem Crs.nodup {sp : List (Hd × List Pt)} {F es : List Ent} (h : Crs sp es) (S : SpOk sp F) : (names es).Nodup := by
  have h1 := h.perm.map fun x => x.1.nm
  rw [List.map_map] at h1
  exact h1.nodup_iff.2 S.nod
theorem Crs.swap {sp : List (Hd × List Pt)} {es : List Ent} (h : Crs sp es) {j k : Nat} {a b : Ent} (hj : es[j]? = some a) (hk : es[k]? = some b) : Crs sp ((es.set j b).set k a) := by
  obtain ⟨h1, rfl⟩ := List.getElem?_eq_some_iff.1 hj
  obtain ⟨h2, rfl⟩ := List.getElem?_eq_some_iff.1 hk
  exact ⟨by simpa using h.len, ((List.set_set_perm h1 h2).map _).trans h.perm⟩
theorem swap_mem {es : List Ent} {j k : Nat} {a b : Ent} (hj : es[j]? = some a) (hk : es[k]? = some b) {e : Ent} (he : e ∈ (es.set j b).set k a) : e ∈ es := by
  obtain ⟨h1, rfl⟩ := List.getElem?_eq_some_iff.1 hj
  obtain ⟨h2, rfl⟩ := List.getElem?_eq_some_iff.1 hk
  exact (List.set_set_perm h1 h2).mem_iff.1 he
/-- A card that is not there yet is taken. -/
theorem crs_takes {sp : List (Hd × List Pt)} {F es fs : List Ent} {l : List Nat} {p : Pl} (S : SpOk sp F) (h : Crs sp es) (I : Inv es [] [] l fs p) (hp : p.shut = false) {k : Nat} {e : Ent} (he : es[k]? = some e) (hk : ¬ k ∈ l) : caE p fs e.cd = 0 := by
  unfold caE
  rw [if_neg (by simp [hp]), if_neg (by simp [h.chk S (List.mem_of_getElem? he)]), if_neg ?_, if_neg ?_]
  · have := I.len; have := h.len; have := S.few; omega
  · intro hn
    have hm := pos_yes _ _ hn
    have hmem : e.cd.nm ∈ names fs := List.mem_of_getElem? hm
    obtain ⟨x, hx, hxn⟩ := List.mem_map.1 hmem
    obtain ⟨i, y, hi, hy, hq⟩ := I.cof x hx
    have hyn : y.h.nm = e.h.nm := by rw [← (ent_of hq).1]; exact hxn
    have p1 := pos_at (h.nodup S) hy
    have p2 := pos_at (h.nodup S) he
    rw [hyn] at p1
    have : (i : Int) = (k : Int) := p1.symm.trans p2
    exact hk ((Int.ofNat.inj this) ▸ hi)
theorem crs_same {sp : List (Hd × List Pt)} {F es fs : List Ent} {l : List Nat} {p : Pl} (S : SpOk sp F) (h : Crs sp es) (I : Inv es [] [] l fs p) (hl : ∀ i, i < sp.length → i ∈ l) (hs : Srt fs) : sameEs fs F = true := by
  have cF : Crs sp F := ⟨by have := S.perm.length_eq; simpa using this, S.perm⟩
  refine srt_same fs F hs S.srt (fun x hx => ?_) (fun y hy => ?_)
  · obtain ⟨i, e, _, he, hq⟩ := I.cof x hx
    obtain ⟨y, hy, h1⟩ := cF.has (h.mem (List.mem_of_getElem? he))
    refine ⟨y, hy, Eq.trans ?_ hq.symm⟩
    injection h1 with a b
    show y.h.with y.ps = e.h.with e.ps
    rw [a, b]
  · obtain ⟨e, he, h1⟩ := h.has (cF.mem hy)
    obtain ⟨i, hi⟩ := List.getElem?_of_mem he
    have hi6 : i < sp.length := by have := (List.getElem?_eq_some_iff.1 hi).1; have := h.len; omega
    obtain ⟨x, hx, hx2⟩ := I.cto i (hl i hi6) e hi
    refine ⟨x, hx, hx2.trans ?_⟩
    injection h1 with a b
    show e.h.with e.ps = y.h.with y.ps
    rw [a, b]
theorem samep_ext {p q : Pt} (h : samep p q = true) : p = q := Classical.byContradiction fun hn => by rw [samep_no hn] at h; cases h
theorem samePs_eq : ∀ {a b : List Pt}, samePs a b = true → a = b
  | [], [], _ => rfl
  | [], _ :: _, h => by simp [samePs] at h
  | _ :: _, [], h => by simp [samePs] at h
  | x :: r, y :: t, h => by
    simp only [samePs, Bool.and_eq_true] at h
    rw [samep_ext h.1, samePs_eq h.2]
theorem sameEs_two : ∀ {a b c : List Ent}, sameEs a c = true → sameEs b c = true → sameEs a b = true
  | [], [], [], _, _ => rfl
  | [], _ :: _, [], _, h => by simp [sameEs] at h
  | _ :: _, _, [], h, _ => by simp [sameEs] at h
  | [], _, _ :: _, h, _ => by simp [sameEs] at h
  | _ :: _, [], _ :: _, _, h => by simp [sameEs] at h
  | x :: r, y :: t, z :: u, h, k => by
    simp only [sameEs, sameE, Bool.and_eq_true] at h k ⊢
    refine ⟨⟨?_, ?_⟩, sameEs_two h.2 k.2⟩
    · rw [hd_ext h.1.1, hd_ext k.1.1]; exact sameHd_refl _
    · rw [samePs_eq h.1.2, samePs_eq k.1.2]; exact samePs_refl _
theorem sameEs_length : ∀ {a b : List Ent}, sameEs a b = true → a.length = b.length := fun {a b} h => Classical.byContradiction fun hn => by rw [sameEs_len hn] at h; cases h
end Go.Proofs.YtknlcjhcamhfmaaGreatDoor
namespace Go.Proofs.YtknlcjhcamhfmaaGreatDoor
open Go.RowKit

theorem perm_pick {α : Type} {l r : List α} {x : α} (a b : List α) (hl : l = a ++ x :: b) (h : (a ++ b).Perm r) : l.Perm (x :: r) := by
  rw [hl]
  exact List.perm_middle.trans (List.Perm.cons _ h)
theorem fnd_yes {q : Int} (h : 0 ≤ q) : fndN true q = q + 1 ∧ fndE true q = 0 := ⟨if_pos ⟨rfl, h⟩, if_pos ⟨rfl, h⟩⟩
/-- Where a list of numbers lies. -/
def IntsIn (w : World) (v : Value) (os : List Int) : Prop := ∃ a k, v = .slice a os.length k ∧ (0 < os.length → ∃ g o, a = some ⟨g, o, none⟩ ∧ ∀ (j : Nat) x, os[j]? = some x → w.cell? ⟨g, o + j, none⟩ = some (.int .i64 x))
/-- Cards at the head of a block. -/
def Lie (w : World) (G : Nat) (es : List Ent) : Prop := ∃ junk : List Value, w.heap[G]? = some (.cells (ecells es ++ junk).toArray 56 (0, 0))
theorem Lie.keepR {w w' : World} {G : Nat} {es : List Ent} {r : Option Nat} (h : Lie w G es) (g : w.grownBy w' r) (hr : some G ≠ r) : Lie w' G es := h.imp fun _ k => grown_keep g k hr
theorem Lie.at {w : World} {G : Nat} {es : List Ent} (h : Lie w G es) {j : Nat} {e : Ent} (he : es[j]? = some e) {k : Nat} {u : Value} (hk : k < 9) (hu : (cvs e.h e.v)[k]? = some u) : w.cell? ⟨G, j * 9 + k, none⟩ = some u := by
  obtain ⟨junk, h⟩ := h
  have hj : j < es.length := (List.getElem?_eq_some_iff.1 he).1
  rw [block_cell h, List.getElem?_toArray, List.getElem?_append_left (by rw [ecells_len]; omega), ecells_at es j e he k hk]
  exact hu
theorem Lie.row {w : World} {G : Nat} {es : List Ent} (h : Lie w G es) {j : Nat} {e : Ent} (he : es[j]? = some e) : C9 w G (j * 9) e.h e.v :=
  ⟨h.at he (k := 0) (by omega) rfl, h.at he (k := 1) (by omega) rfl, h.at he (k := 2) (by omega) rfl, h.at he (k := 3) (by omega) rfl, h.at he (k := 4) (by omega) rfl, h.at he (k := 5) (by omega) rfl, h.at he (k := 6) (by omega) rfl, h.at he (k := 7) (by omega) rfl, h.at he (k := 8) (by omega) rfl⟩
theorem Lie.range {w : World} {G : Nat} {es : List Ent} (h : Lie w G es) {j : Nat} {e : Ent} (he : es[j]? = some e) : w.rangeAt G (j * 9) (cvs e.h e.v) := fun _ _ hu => h.at he (List.getElem?_eq_some_iff.1 hu).1 hu
theorem Lie.free {w : World} {G : Nat} {es : List Ent} (h : Lie w G es) (i : Nat) : w.frozen? ⟨G, i, none⟩ = false := by obtain ⟨junk, h⟩ := h; exact block_free h i
theorem Lie.there {w : World} {G : Nat} {es : List Ent} (h : Lie w G es) {j : Nat} {e : Ent} (he : es[j]? = some e) : w.there G (j * 9) 9 := fun k hk => by
  have hj := (List.getElem?_eq_some_iff.1 he).1
  refine ⟨?_, h.free _⟩
  obtain ⟨u, hu⟩ : ∃ u, (cvs e.h e.v)[k]? = some u := ⟨_, List.getElem?_eq_getElem (by simpa [cvs] using hk)⟩
  rw [h.at he hk hu]
  rfl
theorem ecells_split (es : List Ent) {j : Nat} {e : Ent} (he : es[j]? = some e) : ecells es = ecells (es.take j) ++ (cvs e.h e.v ++ ecells (es.drop (j + 1))) := by
  obtain ⟨h1, h2⟩ := List.getElem?_eq_some_iff.1 he
  have h3 : es = es.take j ++ (e :: es.drop (j + 1)) := by
    rw [← h2, ← List.drop_eq_getElem_cons h1, List.take_append_drop]
  conv => lhs; rw [h3]
  rw [ecells_app]
  rfl
theorem Lie.set {w : World} {G : Nat} {es : List Ent} (h : Lie w G es) {j : Nat} {e : Ent} (he : es[j]? = some e) (x : Ent) : Lie (set9 w G (j * 9) x.h x.v) G (es.set j x) := by
  obtain ⟨junk, h⟩ := h
  have h1 := (List.getElem?_eq_some_iff.1 he).1
  rw [ecells_split es he, List.append_assoc, List.append_assoc] at h
  have h2 := set9_block h (j * 9) (by rw [ecells_len, List.length_take]; omega) rfl x.h x.v
  have h3 : (es.set j x)[j]? = some x := by rw [List.getElem?_set]; simp [h1]
  refine ⟨junk, ?_⟩
  rw [h2, ecells_split _ h3, List.take_set_of_le (Nat.le_refl _), List.drop_set_of_lt (Nat.lt_succ_self _), List.append_assoc, List.append_assoc]
/-- The cards: at the head of a block, in any order; their parts elsewhere, below a bound. -/
structure Cr (lim : Nat) (sp : List (Hd × List Pt)) (w : World) (G : Nat) (es : List Ent) : Prop where
  crs : Crs sp es
  lies : Lie w G es
  ps : ∀ e ∈ es, PsOk (fun k => k < lim ∧ ¬ k = G) w e.v e.ps
theorem Cr.keepR {lim : Nat} {sp : List (Hd × List Pt)} {w w' : World} {G : Nat} {es : List Ent} {r : Option Nat} (h : Cr lim sp w G es) (k : w.grownBy w' r) (hg : some G ≠ r) (hr : ∀ x, x < lim → some x ≠ r) : Cr lim sp w' G es := ⟨h.crs, h.lies.keepR k hg, fun e he => (h.ps e he).keepR k (fun x hx => hr x hx.1)⟩
theorem Cr.keep {lim : Nat} {sp : List (Hd × List Pt)} {w w' : World} {G : Nat} {es : List Ent} (h : Cr lim sp w G es) (k : w.grownBy w' none) : Cr lim sp w' G es := h.keepR k (by simp) (by simp)
theorem Cr.up {lim lim' : Nat} {sp : List (Hd × List Pt)} {w : World} {G : Nat} {es : List Ent} (h : Cr lim sp w G es) (k : lim ≤ lim') : Cr lim' sp w G es := ⟨h.crs, h.lies, fun e he => (h.ps e he).mono fun _ hx => ⟨Nat.lt_of_lt_of_le hx.1 k, hx.2⟩⟩
theorem Cr.swap {lim : Nat} {sp : List (Hd × List Pt)} {w : World} {G : Nat} {es : List Ent} (h : Cr lim sp w G es) {j k : Nat} {a b : Ent} (hj : es[j]? = some a) (hk : es[k]? = some b) : Cr lim sp (set9 (set9 w G (j * 9) b.h b.v) G (k * 9) a.h a.v) G ((es.set j b).set k a) := by
  have h1 := h.lies.set hj b
  have hk' : ∃ y, (es.set j b)[k]? = some y := ⟨_, List.getElem?_eq_getElem (by have := (List.getElem?_eq_some_iff.1 hk).1; simpa using this)⟩
  obtain ⟨y, hy⟩ := hk'
  have h2 := h1.set hy a
  refine ⟨h.crs.swap hj hk, h2, fun e he => ?_⟩
  exact ((h.ps e (swap_mem hj hk he)).keepR (grown_s9 _ _ _ _ _) (fun x hx e => by injection e with e; exact hx.2 e)).keepR (grown_s9 _ _ _ _ _) (fun x hx e => by injection e with e; exact hx.2 e)
theorem Cr.there2 {lim : Nat} {sp : List (Hd × List Pt)} {w : World} {G : Nat} {es : List Ent} (h : Cr lim sp w G es) {j k : Nat} {e x : Ent} (he : es[j]? = some e) (y : Ent) (hx : es[k]? = some x) : (set9 w G (j * 9) y.h y.v).there G (k * 9) 9 := by
  obtain ⟨z, hz⟩ : ∃ z, (es.set j y)[k]? = some z := ⟨_, List.getElem?_eq_getElem (by have := (List.getElem?_eq_some_iff.1 hx).1; simpa using this)⟩
  exact (h.lies.set he y).there hz
theorem setCells_set9 (w : World) (b o : Nat) (h : Hd) (v : Value) : w.setCells b o (cvs h v).toArray.toList = set9 w b o h v := rfl
theorem cvs_oneA (h : Hd) (n : Nat) {a : Option Addr} {c : Nat} : (cvs h (.slice a n c)).toArray.all (·.oneCell') = true := all_oneCell_toArray fun v hv => by
  simp only [cvs, List.mem_cons, List.not_mem_nil, or_false] at hv
  rcases hv with rfl | rfl | rfl | rfl | rfl | rfl | rfl | rfl | rfl <;> rfl
theorem mod_n (n : Nat) (hn : 0 < n) (i : Nat) : ∃ j : Nat, j < n ∧ (i : Int).tmod n = (j : Int) ∧ (i : Int) % n = (j : Int) := by
  refine ⟨i % n, Nat.mod_lt _ hn, ?_, by omega⟩
  rw [Int.tmod_eq_emod_of_nonneg (by omega)]
  omega
/-- Parts of a card's own lie in no block of cards. -/
theorem own_off {base : Nat} {w : World} {v : Value} {ps : List Pt} {G : Nat} {cs : Array Value} (h : Own8 base w v ps) (k : w.heap[G]? = some (.cells cs 56 (0, 0))) : PsOk (fun k => k < w.heap.size ∧ ¬ k = G) w v ps := by
  refine ⟨h.at, fun g o n c ev _ => ?_⟩
  have hb := h.block g (by rw [ev]; rfl)
  refine ⟨hb.2, fun e => ?_⟩
  rcases h with ⟨h, _⟩ | ⟨b, hv, hh, _⟩
  · rw [h] at ev; cases ev
  · rw [hv] at ev
    injection ev with e1 _ _
    injection e1 with e1
    injection e1 with e1 _ _
    unfold PB at hh
    rw [e1, e, k] at hh
    injection hh with hh
    injection hh with _ hh _
    exact absurd hh (by decide)
theorem Own8.keepRb {base : Nat} {w w' : World} {v : Value} {ps : List Pt} {g : Nat} (h : Own8 base w v ps) (k : w.grownBy w' (some g)) (hb : ∀ b, v.ownBlock = some b → b < g) : Own8 base w' v ps := by
  rcases h with h | ⟨b, e, h, hb'⟩
  · exact Or.inl h
  · exact Or.inr ⟨b, e, grown_keep k h (fun e' => by have := hb b (by rw [e]; rfl); injection e' with e'; omega), hb'⟩
theorem ps_nil {ok : Nat → Prop} {w : World} : PsOk ok w (.slice none 0 0) [] := ⟨Or.inl ⟨rfl, rfl⟩, fun g o n c e _ => by cases e⟩
end Go.Proofs.YtknlcjhcamhfmaaGreatDoor
namespace Go.Proofs.YtknlcjhcamhfmaaGreatDoor
open Go.RowKit

def NamesAt (w : World) : Prop := w.cell? ⟨0, 1, none⟩ = some (.string ⟨#[102, 97, 115, 116]⟩) ∧ w.cell? ⟨0, 2, none⟩ = some (.string ⟨#[103, 117, 97, 114, 100]⟩) ∧ w.cell? ⟨0, 3, none⟩ = some (.string ⟨#[118, 101, 110, 111, 109]⟩) ∧ w.cell? ⟨0, 4, none⟩ = some (.string ⟨#[108, 111, 110, 101]⟩) ∧ w.cell? ⟨0, 5, none⟩ = some (.string ⟨#[100, 114, 97, 105, 110]⟩) ∧ w.cell? ⟨0, 6, none⟩ = some (.string ⟨#[109, 117, 116, 101]⟩) ∧ w.cell? ⟨0, 7, none⟩ = some (.string ⟨#[102, 105, 120, 101, 100]⟩) ∧ w.cell? ⟨0, 8, none⟩ = some (.string ⟨#[115, 119, 105, 102, 116]⟩)
theorem NamesAt.keep {w w' : World} (h : NamesAt w) (g : w.grownBy w' none) : NamesAt w' := ⟨g.cell h.1 (by simp), g.cell h.2.1 (by simp), g.cell h.2.2.1 (by simp), g.cell h.2.2.2.1 (by simp), g.cell h.2.2.2.2.1 (by simp), g.cell h.2.2.2.2.2.1 (by simp), g.cell h.2.2.2.2.2.2.1 (by simp), g.cell h.2.2.2.2.2.2.2 (by simp)⟩
def tName (k : Int) : ByteArray := if k = 1 then ⟨#[102, 97, 115, 116]⟩ else if k = 2 then ⟨#[103, 117, 97, 114, 100]⟩ else if k = 3 then ⟨#[118, 101, 110, 111, 109]⟩ else if k = 4 then ⟨#[108, 111, 110, 101]⟩ else if k = 5 then ⟨#[100, 114, 97, 105, 110]⟩ else if k = 6 then ⟨#[109, 117, 116, 101]⟩ else if k = 7 then ⟨#[102, 105, 120, 101, 100]⟩ else ⟨#[115, 119, 105, 102, 116]⟩
set_option maxHeartbeats 1000000 in
theorem isTrait_yes (k : Int) (h0 : 1 ≤ k) (h1 : k ≤ 8) (w : World) : Calls Tryz.prog 241 #[.int .u8 k] w fun e w' => e = .returned (.bool true) ∧ w' = w := by
  go_enter Tryz.func241, Tryz.ntmps241
  go_wp2
  go_ret
  exact ⟨rfl, rfl⟩
set_option maxHeartbeats 1000000 in
theorem tname_any (k : Int) (hk : 1 ≤ k ∧ k ≤ 8) (w : World) (N : NamesAt w) : Calls Tryz.prog 185 #[.int .u8 k] w fun e w' => e = .returned (.string (tName k)) ∧ w' = w := by
  obtain ⟨c1, c2, c3, c4, c5, c6, c7, c8⟩ := N
  rcases (show k = 1 ∨ k = 2 ∨ k = 3 ∨ k = 4 ∨ k = 5 ∨ k = 6 ∨ k = 7 ∨ k = 8 from by omega) with rfl | rfl | rfl | rfl | rfl | rfl | rfl | rfl
  all_goals
    go_enter Tryz.func185, Tryz.ntmps185
    go_wp2_with fail
    refine (isTrait_yes _ (by omega) (by omega) _).mono ?_
    rintro e w1 ⟨rfl, rfl⟩
    go_wp2
    go_ret
    exact ⟨rfl, rfl⟩
end Go.Proofs.YtknlcjhcamhfmaaGreatDoor
