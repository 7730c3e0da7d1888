/-
  The six suits' fills, plainly: whatever the order, nothing is refused, and the book is the same.
  addAll of package whole: marks, traits, cards, one behind the other, into a book that takes them.
  addAll of cards.
  The document's own book: a card laid at its place, plainly.
  Sets of traits as bits: which numbers are sets.
-/
import Derived.Test.YtknlcjhcamhfmaaGreatDoorJ14
import Derived.Test.YtknlcjhcamhfmaaGreatDoorJ16
import Derived.Test.YtknlcjhcamhfmaaGreatDoorJ17
import Derived.Test.YtknlcjhcamhfmaaGreatDoorJ18
import Derived.Test.YtknlcjhcamhfmaaGreatDoorJ20
import Derived.Test.YtknlcjhcamhfmaaGreatDoorJ21
import Derived.Test.YtknlcjhcamhfmaaGreatDoorJ22
import Derived.Test.YtknlcjhcamhfmaaGreatDoorJ11
import Derived.Test.YtknlcjhcamhfmaaGreatDoorJ27
import Derived.Test.YtknlcjhcamhfmaaGreatDoorJ0
namespace Go.Proofs.YtknlcjhcamhfmaaGreatDoor
open Go.RowKit

/-- What the six have: marks, traits, cards. -/
def sMs : Nat → List Mk
  | 0 => [] | 1 => [Ea.mk] | 2 => [Fr.mk] | 3 => [] | 4 => [Vo.mk] | _ => [Gd.mk]
def sTs : Nat → List Int
  | 0 => [1, 8] | 1 => [2] | 2 => [3] | 3 => [4, 5] | 4 => [6] | _ => [7]
def sCs : Nat → List (Hd × List Pt)
  | 0 => Ai.specL | 1 => Ea.specL | 2 => Fr.specL | 3 => Wa.specL | 4 => Vo.specL | _ => Gd.specL
/-- Marks, traits, one behind the other. -/
def pMs (p : Pl) (l : List Mk) : Pl := l.foldl maP p
def pTs (p : Pl) (l : List Int) : Pl := l.foldl (fun p t => trP p t (tName t)) p
def okMs (p : Pl) : List Mk → Prop
  | [] => True
  | m :: r => maE p m = 0 ∧ okMs (maP p m) r
def okTs (p : Pl) : List Int → Prop
  | [] => True
  | t :: r => (1 ≤ t ∧ t ≤ 8) ∧ trE p t (tName t) = 0 ∧ okTs (trP p t (tName t)) r
def okMsB (p : Pl) : List Mk → Bool
  | [] => true
  | m :: r => decide (maE p m = 0) && okMsB (maP p m) r
def okTsB (p : Pl) : List Int → Bool
  | [] => true
  | t :: r => (decide (1 ≤ t) && decide (t ≤ 8)) && (decide (trE p t (tName t) = 0) && okTsB (trP p t (tName t)) r)
theorem okMs_of : ∀ {l : List Mk} {p : Pl}, okMsB p l = true → okMs p l
  | [], _, _ => trivial
  | m :: r, p, h => by
    simp only [okMsB, Bool.and_eq_true, decide_eq_true_eq] at h
    exact ⟨h.1, okMs_of h.2⟩
theorem okTs_of : ∀ {l : List Int} {p : Pl}, okTsB p l = true → okTs p l
  | [], _, _ => trivial
  | t :: r, p, h => by
    simp only [okTsB, Bool.and_eq_true, decide_eq_true_eq] at h
    exact ⟨h.1, h.2.1, okTs_of h.2.2⟩
theorem okMs_at : ∀ {l : List Mk} {p : Pl}, okMs p l → ∀ {j : Nat} {m : Mk}, l[j]? = some m → maE (pMs p (l.take j)) m = 0
  | [], _, _, j, m, h => by simp at h
  | x :: r, p, k, 0, m, h => by
    obtain rfl : x = m := by simpa using h
    exact k.1
  | x :: r, p, k, j + 1, m, h => okMs_at (l := r) k.2 (by simpa using h)
theorem okTs_at : ∀ {l : List Int} {p : Pl}, okTs p l → ∀ {j : Nat} {t : Int}, l[j]? = some t → (1 ≤ t ∧ t ≤ 8) ∧ trE (pTs p (l.take j)) t (tName t) = 0
  | [], _, _, j, m, h => by simp at h
  | x :: r, p, k, 0, m, h => by
    obtain rfl : x = m := by simpa using h
    exact ⟨k.1, k.2.1⟩
  | x :: r, p, k, j + 1, m, h => okTs_at (l := r) k.2.2 (by simpa using h)
theorem pMs_snoc (p : Pl) (l : List Mk) {j : Nat} {m : Mk} (h : l[j]? = some m) : pMs p (l.take (j + 1)) = maP (pMs p (l.take j)) m := by
  unfold pMs
  rw [List.take_add_one, h]
  simp
theorem pTs_snoc (p : Pl) (l : List Int) {j : Nat} {t : Int} (h : l[j]? = some t) : pTs p (l.take (j + 1)) = trP (pTs p (l.take j)) t (tName t) := by
  unfold pTs
  rw [List.take_add_one, h]
  simp
/-- What a book that was filled by some of the six holds beside its cards. -/
def pick {α : Type} (b : Bool) (x y : α) : α := match b with | true => x | false => y
def pM (a0 a1 a2 a3 a4 a5 : Bool) : Pl := ⟨false, [⟨#[]⟩, pick a0 (tName 1) ⟨#[]⟩, pick a1 (tName 2) ⟨#[]⟩, pick a2 (tName 3) ⟨#[]⟩, pick a3 (tName 4) ⟨#[]⟩, pick a3 (tName 5) ⟨#[]⟩, pick a4 (tName 6) ⟨#[]⟩, pick a5 (tName 7) ⟨#[]⟩, pick a0 (tName 8) ⟨#[]⟩], [Mk.none, pick a5 Gd.mk Mk.none, pick a4 Vo.mk Mk.none, pick a1 Ea.mk Mk.none, pick a2 Fr.mk Mk.none]⟩
def pL (l : List Nat) : Pl := pM (l.contains 0) (l.contains 1) (l.contains 2) (l.contains 3) (l.contains 4) (l.contains 5)
theorem pL_nil : pL [] = plNew := rfl
/-- One fill takes what is not there yet. -/
def stepOk (k : Nat) (p q : Pl) : Prop := okMs p (sMs k) ∧ okTs (pMs p (sMs k)) (sTs k) ∧ pTs (pMs p (sMs k)) (sTs k) = q
def stepB (k : Nat) (p q : Pl) : Bool := okMsB p (sMs k) && (okTsB (pMs p (sMs k)) (sTs k) && samePl 0 (pTs (pMs p (sMs k)) (sTs k)) 0 q)
theorem pl_of {p q : Pl} (h : samePl 0 p 0 q = true) : p = q := by
  obtain ⟨_, h1, h2, h3⟩ := samePl_iff.1 h
  obtain ⟨a, b, c⟩ := p
  obtain ⟨d, e, f⟩ := q
  simp only at h1 h2 h3
  rw [h1, h2, h3]
theorem step_of {k : Nat} {p q : Pl} (h : stepB k p q = true) : stepOk k p q := by
  simp only [stepB, Bool.and_eq_true] at h
  exact ⟨okMs_of h.1, okTs_of h.2.1, pl_of h.2.2⟩
set_option maxRecDepth 100000 in
theorem step0 : ∀ a1 a2 a3 a4 a5 : Bool, stepB 0 (pM false a1 a2 a3 a4 a5) (pM true a1 a2 a3 a4 a5) = true := by decide +kernel
set_option maxRecDepth 100000 in
theorem step1 : ∀ a0 a2 a3 a4 a5 : Bool, stepB 1 (pM a0 false a2 a3 a4 a5) (pM a0 true a2 a3 a4 a5) = true := by decide +kernel
set_option maxRecDepth 100000 in
theorem step2 : ∀ a0 a1 a3 a4 a5 : Bool, stepB 2 (pM a0 a1 false a3 a4 a5) (pM a0 a1 true a3 a4 a5) = true := by decide +kernel
set_option maxRecDepth 100000 in
theorem step3 : ∀ a0 a1 a2 a4 a5 : Bool, stepB 3 (pM a0 a1 a2 false a4 a5) (pM a0 a1 a2 true a4 a5) = true := by decide +kernel
set_option maxRecDepth 100000 in
theorem step4 : ∀ a0 a1 a2 a3 a5 : Bool, stepB 4 (pM a0 a1 a2 a3 false a5) (pM a0 a1 a2 a3 true a5) = true := by decide +kernel
set_option maxRecDepth 100000 in
theorem step5 : ∀ a0 a1 a2 a3 a4 : Bool, stepB 5 (pM a0 a1 a2 a3 a4 false) (pM a0 a1 a2 a3 a4 true) = true := by decide +kernel
theorem cont_snoc (l : List Nat) (k i : Nat) : (l ++ [k]).contains i = (l.contains i || (i == k)) := by 
  simp only [List.contains_eq_mem, List.mem_append, List.mem_singleton, Bool.decide_or]
  rfl
theorem fstep_any (l : List Nat) (k : Nat) (hk : k < 6) (hl : ¬ k ∈ l) : stepOk k (pL l) (pL (l ++ [k])) := by
  have hc : l.contains k = false := by simpa using hl
  unfold pL
  simp only [cont_snoc]
  rcases (show k = 0 ∨ k = 1 ∨ k = 2 ∨ k = 3 ∨ k = 4 ∨ k = 5 by omega) with rfl | rfl | rfl | rfl | rfl | rfl <;> rw [hc] <;> simp only [Nat.reduceBEq, Bool.or_false, Bool.or_true]
  · exact step_of (step0 _ _ _ _ _)
  · exact step_of (step1 _ _ _ _ _)
  · exact step_of (step2 _ _ _ _ _)
  · exact step_of (step3 _ _ _ _ _)
  · exact step_of (step4 _ _ _ _ _)
  · exact step_of (step5 _ _ _ _ _)
/-- Each of the six once. -/
def Ord6 (l : List Nat) : Prop := l.Perm [0, 1, 2, 3, 4, 5]
theorem Ord6.mem {l : List Nat} (h : Ord6 l) {k : Nat} (hk : k < 6) : k ∈ l := h.mem_iff.2 (by simp; omega)
theorem Ord6.lt {l : List Nat} (h : Ord6 l) {k : Nat} (hk : k ∈ l) : k < 6 := by have := h.mem_iff.1 hk; simp at this; omega
theorem Ord6.nodup {l : List Nat} (h : Ord6 l) : l.Nodup := h.nodup_iff.2 (by decide)
theorem Ord6.len {l : List Nat} (h : Ord6 l) : l.length = 6 := h.length_eq
def pAll : Pl := pM true true true true true true
theorem Ord6.pL {l : List Nat} (h : Ord6 l) : pL l = pAll := by
  have c : ∀ k, k < 6 → l.contains k = true := fun k hk => by simpa using h.mem hk
  unfold Go.Proofs.YtknlcjhcamhfmaaGreatDoor.pL
  rw [c 0 (by omega), c 1 (by omega), c 2 (by omega), c 3 (by omega), c 4 (by omega), c 5 (by omega)]
  rfl
/-- The cards of some of the six. -/
def cL (l : List Nat) : List (Hd × List Pt) := l.flatMap sCs
def cAll : List (Hd × List Pt) := cL [0, 1, 2, 3, 4, 5]
theorem Ord6.cL {l : List Nat} (h : Ord6 l) : (cL l).Perm cAll := List.Perm.flatMap_right _ h
set_option maxRecDepth 100000 in
theorem cAll_chk : ∀ x ∈ cAll, cchk (x.1.with x.2) = 0 := by decide +kernel
set_option maxRecDepth 100000 in
theorem cAll_four : ∀ x ∈ cAll, x.2.length ≤ 4 := by decide +kernel
set_option maxRecDepth 100000 in
theorem cAll_nod : (cAll.map fun x => x.1.nm).Nodup := by decide +kernel
set_option maxRecDepth 100000 in
theorem cAll_len : cAll.length = 36 := by decide +kernel
theorem sCs_mem {k : Nat} (hk : k < 6) {x : Hd × List Pt} (hx : x ∈ sCs k) : x ∈ cAll := List.mem_flatMap.2 ⟨k, by simp; omega, hx⟩
theorem sCs_len {k : Nat} (hk : k < 6) : (sCs k).length = 6 := by
  rcases (show k = 0 ∨ k = 1 ∨ k = 2 ∨ k = 3 ∨ k = 4 ∨ k = 5 by omega) with rfl | rfl | rfl | rfl | rfl | rfl <;> rfl
/-- A card that is not there yet is taken: done: those that are there. -/
theorem card_taken {done : List (Hd × List Pt)} {es : List Ent} {p : Pl} {c : Hd × List Pt} (hE : (es.map hp).Perm done) (hn : ¬ c.1.nm ∈ done.map (fun x => x.1.nm)) (hc : cchk (c.1.with c.2) = 0) (hl : done.length < 64) (hs : p.shut = false) : caE p es (c.1.with c.2) = 0 := by
  have e1 : names es = (es.map hp).map (fun x => x.1.nm) := by rw [List.map_map]; rfl
  have hl2 : es.length = done.length := by have := hE.length_eq; simpa using this
  unfold caE
  rw [if_neg (by simp [hs]), if_neg (by simp [hc]), if_neg ?_, if_neg (by omega)]
  intro h0
  have hm := List.mem_of_getElem? (pos_yes _ _ h0)
  rw [e1] at hm
  exact hn ((hE.map _).mem_iff.1 hm)
theorem ins_hp : ∀ (es : List Ent) (e : Ent), ((ins es e).map hp).Perm (hp e :: es.map hp)
  | [], e => List.Perm.refl _
  | y :: r, e => by
    rw [ins_cons]
    split
    · exact (List.Perm.cons _ (ins_hp r e)).trans (List.Perm.swap _ _ _)
    · exact List.Perm.refl _
/-- Two rows in order of the same cards are one. -/
theorem row_one : ∀ {a b : List Ent}, Srt a → Srt b → (a.map hp).Perm (b.map hp) → a.map hp = b.map hp
  | [], [], _, _, _ => rfl
  | [], y :: s, _, _, h => by have := h.length_eq; simp at this
  | x :: r, [], _, _, h => by have := h.length_eq; simp at this
  | x :: r, y :: s, ha, hb, h => by
    unfold Srt at ha hb
    rw [List.pairwise_cons] at ha hb
    have e : hp x = hp y := by
      have h1 : hp x ∈ (y :: s).map hp := h.mem_iff.1 (by simp)
      have h2 : hp y ∈ (x :: r).map hp := h.mem_iff.2 (by simp)
      obtain ⟨y', hy', e1⟩ := List.mem_map.1 h1
      obtain ⟨x', hx', e2⟩ := List.mem_map.1 h2
      rcases List.mem_cons.1 hy' with rfl | hy'
      · exact e1.symm
      · rcases List.mem_cons.1 hx' with rfl | hx'
        · exact e2
        · have k1 := hb.1 y' hy'
          have k2 := ha.1 x' hx'
          rw [show y'.h = x.h from congrArg Prod.fst e1] at k1
          rw [show x'.h = y.h from congrArg Prod.fst e2] at k2
          exact absurd (k1.trans k2) (Ahd.irrefl _)
    rw [List.map_cons, List.map_cons] at h ⊢
    rw [e] at h ⊢
    rw [row_one ha.2 hb.2 h.cons_inv]
def mkE (x : Hd × List Pt) : Ent := ⟨x.1, .bool false, x.2⟩
def rowOf (l : List (Hd × List Pt)) (a : List Ent) : List Ent := l.foldl (fun es x => ins es (mkE x)) a
theorem rowOf_perm : ∀ (l : List (Hd × List Pt)) (a : List Ent), ((rowOf l a).map hp).Perm (a.map hp ++ l)
  | [], a => by simp [rowOf]
  | x :: r, a => by
    refine (rowOf_perm r (ins a (mkE x))).trans ?_
    refine ((ins_hp a (mkE x)).append_right r).trans ?_
    exact List.perm_middle.symm
def rowAll : List Ent := rowOf cAll []
theorem rowAll_perm : (rowAll.map hp).Perm cAll := rowOf_perm cAll []
set_option maxRecDepth 100000 in
theorem rowAll_srt : Srt rowAll := srt_of (by decide +kernel)
theorem row_full {es : List Ent} (s : Srt es) (h : (es.map hp).Perm cAll) : es.map hp = rowAll.map hp := row_one s rowAll_srt (h.trans rowAll_perm.symm)
theorem hp_eqE : ∀ {a b : List Ent}, a.map hp = b.map hp → sameEs a b = true
  | [], [], _ => rfl
  | [], _ :: _, h => by simp at h
  | _ :: _, [], h => by simp at h
  | x :: r, y :: t, h => by
    rw [List.map_cons, List.map_cons] at h
    injection h with h1 h2
    unfold sameEs sameE
    rw [show x.h = y.h from congrArg Prod.fst h1, show x.ps = y.ps from congrArg Prod.snd h1, sameHd_refl, samePs_refl, hp_eqE h2]
    rfl
set_option maxRecDepth 100000 in
theorem seal_rowAll : sealE pAll rowAll = 0 := by decide +kernel
theorem seal_full {es : List Ent} (h : es.map hp = rowAll.map hp) : sealE pAll es = 0 := (sealE_of (hp_eqE h) rfl).trans seal_rowAll
def pShut : Pl := { pAll with shut := true }
theorem sealP_full {es : List Ent} (h : es.map hp = rowAll.map hp) : sealP pAll es = pShut := if_pos (seal_full h)
theorem full_len {es : List Ent} (h : es.map hp = rowAll.map hp) : es.length = 36 := by
  have h1 := congrArg List.length h
  have h2 := rowAll_perm.length_eq
  rw [cAll_len] at h2
  simp only [List.length_map] at h1 h2
  omega
theorem full_nod {es : List Ent} (h : es.map hp = rowAll.map hp) : (names es).Nodup := by
  have e1 : names es = (es.map hp).map (fun x => x.1.nm) := by rw [List.map_map]; rfl
  rw [e1, h, (rowAll_perm.map _).nodup_iff]
  exact cAll_nod
end Go.Proofs.YtknlcjhcamhfmaaGreatDoor
namespace Go.Proofs.YtknlcjhcamhfmaaGreatDoor
open Go.RowKit

/-- Marks in a block of their own, beside the book. -/
def MsAt (w : World) (b : Nat) (v : Value) (ms : List Mk) : Prop := ∃ a, v = .slice a ms.length ms.length ∧ (0 < ms.length → ∃ g, a = some ⟨g, 0, none⟩ ∧ ¬ g = b ∧ w.heap[g]? = some (.cells (mcells ms).toArray 60 (0, 0)))
/-- Traits likewise. -/
def TsAt (w : World) (b : Nat) (v : Value) (ts : List Int) : Prop := ∃ a, v = .slice a ts.length ts.length ∧ (0 < ts.length → ∃ g, a = some ⟨g, 0, none⟩ ∧ ¬ g = b ∧ w.heap[g]? = some (.cells (ts.map (Value.int .u8)).toArray 57 (0, 0)))
theorem m4_of {w : World} {g : Nat} {ms : List Mk} (h : w.heap[g]? = some (.cells (mcells ms).toArray 60 (0, 0))) {j : Nat} {m : Mk} (hm : ms[j]? = some m) : M4 w g (j * 4) m := by
  have at_ : ∀ k u, k < 4 → (mvs m)[k]? = some u → w.cell? ⟨g, j * 4 + k, none⟩ = some u := fun k u hk hu => by
    rw [block_cell h, List.getElem?_toArray, mcells_at ms j m hm k hk]
    exact hu
  exact ⟨at_ 0 _ (by omega) rfl, at_ 1 _ (by omega) rfl, at_ 2 _ (by omega) rfl, at_ 3 _ (by omega) rfl⟩
set_option maxRecDepth 100000 in
set_option maxHeartbeats 4000000 in
theorem addM_any (ok : Nat → Prop) (b : Nat) (es : List Ent) (p : Pl) (ms : List Mk) (v : Value) (w : World) (B : Book ok w b es p) (hok : ¬ ok b) (hM : MsAt w b v ms) (hk : okMs p ms) (h4 : ms.length ≤ 4) : Calls Tryz.prog 183 #[v, .func (.func 27) #[.pointer (some ⟨b, 0, none⟩)] #[]] w fun e w' => e = .returned (.int .i64 0) ∧ Book ok w' b es (pMs p ms) ∧ w.grownBy w' (some b) := by
  obtain ⟨a, rfl, HM0⟩ := hM
  have HM : Hid (0 < ms.length → ∃ g, a = some ⟨g, 0, none⟩ ∧ ¬ g = b ∧ w.heap[g]? = some (.cells (mcells ms).toArray 60 (0, 0))) := HM0
  have HK : Hid (okMs p ms) := hk
  have HB : Hid (Book ok w b es p) := B
  have hsm : Small ms.length := by unfold Small; omega
  clear HM0 hk B h4
  go_enter Tryz.func183, Tryz.ntmps183
  go_wp2_with fail
  go_loopw [10] (fun x wr => ∃ j : Nat, j ≤ ms.length ∧ x = .int .i64 (j : Int) ∧ Book ok wr b es (pMs p (ms.take j)) ∧ w.grownBy wr (some b)) (fun x _ => ms.length - (intOf x).toNat)
  case atStart => exact ⟨0, Nat.zero_le _, rfl, HB.out, grown_refl _ _⟩
  case round =>
    clear HB
    obtain ⟨j, hj, rfl, B, Gr⟩ := hrel
    obtain ⟨U, hU⟩ : ∃ U, U = wr := ⟨_, rfl⟩
    subst hU
    have HB : Hid (Book ok U b es (pMs p (ms.take j))) := B
    have HG : Hid (w.grownBy U (some b)) := Gr
    clear B Gr
    rcases (show j < ms.length ∨ j = ms.length from by omega) with h1 | h1
    · have h1' : (j : Int) < (ms.length : Int) := by omega
      have j0 : (0 : Int) ≤ (j : Int) := by omega
      obtain ⟨g, rfl, hgb, Hg⟩ := HM.out (by omega)
      obtain ⟨m, hm⟩ : ∃ m, ms[j]? = some m := ⟨_, List.getElem?_eq_getElem h1⟩
      have HC := m4_of (grown_keep HG.out Hg (fun e => hgb (by injection e))) hm
      have HZ := okMs_at HK.out hm
      have HN : Hid (pMs p (ms.take (j + 1)) = maP (pMs p (ms.take j)) m) := pMs_snoc p ms hm
      clear hm Hg
      obtain ⟨mi, nm, po, he⟩ := m
      obtain ⟨c0, c1, c2, c3⟩ := HC
      simp only at c0 c1 c2 c3
      have CM := fun W (g : U.grownBy W none) => bmark ok b es (pMs p (ms.take j)) ⟨mi, nm, po, he⟩ W (HB.out.keep g) hok
      rw [HZ] at CM
      unfold mv at CM
      simp only at CM
      have HCM : Hid (∀ W, U.grownBy W none → _) := CM
      clear CM HZ
      go_wp2_with fail
      refine (HCM.out _ (World.grownBy_alloc _ _ none)).mono ?_
      rintro e U2 ⟨rfl, B2, g2⟩
      have HB2 : Hid (Book ok U2 b es (pMs p (ms.take (j + 1)))) := by rw [HN.out]; exact B2
      have HG2 : Hid (w.grownBy U2 (some b)) := HG.out.trans (grown_own' (World.grownBy_alloc _ _ none) g2)
      clear B2 g2 HCM c0 c1 c2 c3
      go_wp2_with fail
      go_roundw
      case rel => exact ⟨j + 1, h1, by first | rfl | (rw [hsm.wrap h1]; rfl), HB2.out, HG2.out⟩
      case measure => first | exact meas_next h1 | (rw [hsm.wrap h1]; exact meas_next h1)
    · have h1' : ¬ (j : Int) < (ms.length : Int) := by omega
      have HF : Hid (Book ok U b es (pMs p ms)) := by have h9 := HB.out; rw [h1, List.take_of_length_le (Nat.le_refl _)] at h9; exact h9
      clear h1 HB
      go_wp2
      go_ret
      exact ⟨rfl, HF.out, HG.out⟩
end Go.Proofs.YtknlcjhcamhfmaaGreatDoor
namespace Go.Proofs.YtknlcjhcamhfmaaGreatDoor
open Go.RowKit

theorem fresh_at {α β : Type} {f : α → β} {d l : List α} (h : ((d ++ l).map f).Nodup) {j : Nat} {c : α} (hc : l[j]? = some c) : ¬ f c ∈ (d ++ l.take j).map f := by
  obtain ⟨h1, h2⟩ := List.getElem?_eq_some_iff.1 hc
  have h3 : l = l.take j ++ (c :: l.drop (j + 1)) := by rw [← h2, ← List.drop_eq_getElem_cons h1, List.take_append_drop]
  rw [h3, ← List.append_assoc, List.map_append, List.nodup_append] at h
  intro hm
  exact h.2.2 _ hm _ (List.mem_map.2 ⟨c, by simp, rfl⟩) rfl
theorem perm_next {α : Type} {d l a : List α} {j : Nat} {c : α} (hc : l[j]? = some c) (h : a.Perm (d ++ l.take j)) {a' : List α} (h' : a'.Perm (c :: a)) : a'.Perm (d ++ l.take (j + 1)) := by
  rw [List.take_add_one, hc, ← List.append_assoc]
  refine h'.trans ((List.Perm.cons c h).trans ?_)
  exact (List.perm_append_singleton c _).symm
set_option maxRecDepth 100000 in
set_option maxHeartbeats 8000000 in
theorem addC_any (ok : Nat → Prop) (b g base : Nat) (es cs : List Ent) (p : Pl) (sp d : List (Hd × List Pt)) (w : World) (B : Book ok w b es p) (hok : ¬ ok b) (hnew : ∀ n, w.heap.size ≤ n → ok n) (hgb : ¬ g = b) (Hl : w.heap[g]? = some (.cells (ecells cs).toArray 56 (0, 0))) (his : cs.map hp = sp) (hps : ∀ e ∈ cs, Own8 base w e.v e.ps) (hbb : b < base) (hE : (es.map hp).Perm d) (hN : ((d ++ sp).map fun x => x.1.nm).Nodup) (hC : ∀ x ∈ sp, cchk (x.1.with x.2) = 0) (h64 : d.length + sp.length ≤ 64) (h4 : ∀ x ∈ sp, x.2.length ≤ 4) (hs : p.shut = false) : Calls Tryz.prog 187 #[.slice (some ⟨g, 0, none⟩) cs.length cs.length, .func (.func 25) #[.pointer (some ⟨b, 0, none⟩)] #[]] w fun e w' => e = .returned (.int .i64 0) ∧ ∃ es', Book ok w' b es' p ∧ (es'.map hp).Perm (d ++ sp) ∧ w.grownBy w' (some b) := by
  have HL : Hid (w.heap[g]? = some (.cells (ecells cs).toArray 56 (0, 0))) := Hl
  have HP : Hid (∀ e ∈ cs, Own8 base w e.v e.ps) := hps
  have HNo : Hid (((d ++ sp).map fun x => x.1.nm).Nodup) := hN
  have HC : Hid (∀ x ∈ sp, cchk (x.1.with x.2) = 0) := hC
  have H4 : Hid (∀ x ∈ sp, x.2.length ≤ 4) := h4
  have HI : Hid (cs.map hp = sp) := his
  have HB : Hid (Book ok w b es p) := B
  have HE : Hid ((es.map hp).Perm d) := hE
  have H64 : Hid (d.length + sp.length ≤ 64) := h64
  have HS : Hid (p.shut = false) := hs
  have HW : Hid (∀ n, w.heap.size ≤ n → ok n) := hnew
  have hlen : cs.length = sp.length := by rw [← his]; simp
  have hsm : Small cs.length := by unfold Small; omega
  have HLn : Hid (cs.length = sp.length) := hlen
  clear Hl hps hN hC his B hE h64 h4 hs hlen hnew
  go_enter Tryz.func187, Tryz.ntmps187
  go_wp2_with fail
  go_loopw [10] (fun x wr => ∃ (j : Nat) (fs : List Ent), j ≤ cs.length ∧ x = .int .i64 (j : Int) ∧ Book ok wr b fs p ∧ (fs.map hp).Perm (d ++ sp.take j) ∧ w.grownBy wr (some b)) (fun x _ => cs.length - (intOf x).toNat)
  case atStart => exact ⟨0, es, Nat.zero_le _, rfl, HB.out, by simpa using HE.out, grown_refl _ _⟩
  case round =>
    clear HB HE
    obtain ⟨j, fs, hj, rfl, B, Pm, Gr⟩ := hrel
    obtain ⟨U, hU⟩ : ∃ U, U = wr := ⟨_, rfl⟩
    subst hU
    have HB : Hid (Book ok U b fs p) := B
    have HG : Hid (w.grownBy U (some b)) := Gr
    have HPm : Hid ((fs.map hp).Perm (d ++ sp.take j)) := Pm
    clear B Gr Pm
    rcases (show j < cs.length ∨ j = cs.length from by omega) with h1 | h1
    · have h1' : (j : Int) < (cs.length : Int) := by omega
      have j0 : (0 : Int) ≤ (j : Int) := by omega
      obtain ⟨e0, he0⟩ : ∃ e, cs[j]? = some e := ⟨_, List.getElem?_eq_getElem h1⟩
      have hsp : sp[j]? = some (hp e0) := by rw [← HI.out, List.getElem?_map, he0]; rfl
      have mem0 := List.mem_of_getElem? hsp
      have HT : caE p fs (e0.h.with e0.ps) = 0 := card_taken (c := hp e0) HPm.out (fresh_at HNo.out hsp) (HC.out _ mem0) (by have h7 := H64.out; have h8 := HLn.out; simp only [List.length_append, List.length_take]; omega) HS.out
      have Hps : e0.ps.length ≤ 4 := H4.out _ mem0
      have HO := (HP.out e0 (List.mem_of_getElem? he0)).keepR HG.out (fun k hk e => by injection e with e; omega)
      have HD : C9 U g (j * 9) e0.h e0.v := Lie.row (es := cs) ⟨[], by rw [List.append_nil]; exact grown_keep HG.out HL.out (fun e => hgb (by injection e))⟩ he0
      have HNx : Hid (∀ u, ((ins fs ⟨e0.h, u, e0.ps⟩).map hp).Perm (d ++ sp.take (j + 1))) := fun u => perm_next hsp HPm.out (ins_hp fs ⟨e0.h, u, e0.ps⟩)
      have HPs : Hid (PsAt U e0.v e0.ps) := HO.at
      have hsmp : Small e0.ps.length := by unfold Small; omega
      clear he0 hsp mem0 Hps
      obtain ⟨⟨nm, su, kd, co, po, he, tr, tk⟩, vv, ps⟩ := e0
      simp only at HD HPs HO HNx hsmp HT
      obtain ⟨xx, yy, rfl⟩ := HO.at.form
      clear HO
      obtain ⟨z0, z1, z2, z3, z4, z5, z6, z7, z8⟩ := HD
      have HK2 := fun W (gr : U.grownBy W none) => bcard ok b fs p ⟨nm, su, kd, co, po, he, tr, tk⟩ _ ps W (HB.out.keep gr) hok (fun k hk => HW.out k (Nat.le_trans (Nat.le_trans HG.out.size gr.size) hk)) (HPs.out.keep gr) hsmp
      rw [HT] at HK2
      unfold cv at HK2
      have HCM : Hid (∀ W, U.grownBy W none → _) := HK2
      clear HK2 HT
      go_wp2_with fail
      refine (HCM.out _ (World.grownBy_alloc _ _ none)).mono ?_
      rintro e U3 ⟨u, rfl, B3, g3⟩
      (first | rw [if_pos rfl] at B3 | rw [if_pos trivial] at B3)
      have HB3 : Hid (Book ok U3 b (ins fs ⟨⟨nm, su, kd, co, po, he, tr, tk⟩, u, ps⟩) p) := B3
      have HG3 : Hid (w.grownBy U3 (some b)) := HG.out.trans (grown_own' (World.grownBy_alloc _ _ none) g3)
      clear B3 g3 z0 z1 z2 z3 z4 z5 z6 z7 z8 HCM
      go_wp2_with fail
      go_roundw
      case rel => exact ⟨j + 1, _, h1, by first | rfl | (rw [hsm.wrap h1]; rfl), HB3.out, HNx.out u, HG3.out⟩
      case measure => first | exact meas_next h1 | (rw [hsm.wrap h1]; exact meas_next h1)
    · have h1' : ¬ (j : Int) < (cs.length : Int) := by omega
      have HF : Hid ((fs.map hp).Perm (d ++ sp)) := by have h9 := HPm.out; rw [h1, HLn.out, List.take_of_length_le (Nat.le_refl _)] at h9; exact h9
      clear h1 HPm
      go_wp2
      go_ret
      exact ⟨rfl, fs, HB.out, HF.out, HG.out⟩
end Go.Proofs.YtknlcjhcamhfmaaGreatDoor
namespace Go.Proofs.YtknlcjhcamhfmaaGreatDoor
open Go.RowKit

/-- None of these stands behind the card. -/
def NoA (fs : List Ent) (h : Hd) (m : Nat) : Prop := ∀ (j : Nat) e, j < m → fs[j]? = some e → ¬ ord h e.h < 0
theorem NoA.next {fs : List Ent} {h : Hd} {m : Nat} {e : Ent} (k : NoA fs h m) (he : fs[m]? = some e) (hn : ¬ ord h e.h < 0) : NoA fs h (m + 1) := fun j x hj hx => by
  rcases (show j < m ∨ j = m from by omega) with h1 | rfl
  · exact k j x h1 hx
  · rw [he] at hx
    obtain rfl := Option.some.inj hx
    exact hn
theorem rk_is : ∀ (fs : List Ent) (h : Hd) (m : Nat), m ≤ fs.length → (∀ x ∈ fs, ¬ x.h.nm = h.nm) → NoA fs h m → (∀ e, fs[m]? = some e → ord h e.h < 0) → rk fs h = m
  | [], h, m, hm, _, _, _ => by simp at hm; subst hm; rfl
  | x :: r, h, 0, _, _, _, hl => by
    have h1 := (ord_lt _ _).1 (hl x rfl)
    have h2 : ¬ ord x.h h < 0 := fun k => Ahd.irrefl _ (h1.trans ((ord_lt _ _).1 k))
    simp only [rk]
    rw [if_neg h2]
  | x :: r, h, m + 1, hm, hu, hn, hl => by
    have h1 : ¬ Ahd h x.h := fun k => hn 0 x (Nat.succ_pos _) rfl ((ord_lt _ _).2 k)
    have h2 : Ahd x.h h := (Ahd.tri (hu x (by simp))).resolve_right h1
    have ih := rk_is r h m (by simpa using hm) (fun y hy => hu y (List.mem_cons_of_mem _ hy)) (fun j e hj he => hn (j + 1) e (by omega) (by simpa using he)) (fun e he => hl e (by simpa using he))
    simp only [rk]
    rw [if_pos ((ord_lt _ _).2 h2), ih]
/-- The list as it is built. -/
def St (fs : List Ent) (h : Hd) (ps : List Pt) (gs : List Ent) (i : Nat) (pb : Bool) : Prop := (pb = false ∧ gs = fs.take i ∧ NoA fs h i) ∨ (pb = true ∧ ∃ u m, m < i ∧ gs = fs.take m ++ (⟨h, u, ps⟩ : Ent) :: (fs.take i).drop m ∧ NoA fs h m ∧ ∀ e, fs[m]? = some e → ord h e.h < 0)
theorem St.len {fs : List Ent} {h : Hd} {ps : List Pt} {gs : List Ent} {i : Nat} {pb : Bool} (s : St fs h ps gs i pb) : gs.length ≤ i + 1 := by
  rcases s with ⟨_, rfl, _⟩ | ⟨_, u, m, hm, rfl, _⟩
  · rw [List.length_take]; omega
  · rw [List.length_append, List.length_cons, List.length_take, List.length_drop, List.length_take]; omega
theorem take_one {fs : List Ent} {i : Nat} {e : Ent} (he : fs[i]? = some e) : fs.take (i + 1) = fs.take i ++ [e] := by
  rw [List.take_add_one, he]
  rfl
theorem St.old {fs : List Ent} {h : Hd} {ps : List Pt} {gs : List Ent} {i : Nat} {e : Ent} (s : St fs h ps gs i false) (he : fs[i]? = some e) (hn : ¬ ord h e.h < 0) : St fs h ps (gs ++ [e]) (i + 1) false := by
  rcases s with ⟨_, rfl, k⟩ | ⟨c, _⟩
  · exact Or.inl ⟨rfl, (take_one he).symm, k.next he hn⟩
  · cases c
theorem St.put {fs : List Ent} {h : Hd} {ps : List Pt} {gs : List Ent} {i : Nat} {e : Ent} (s : St fs h ps gs i false) (he : fs[i]? = some e) (hn : ord h e.h < 0) (u : Value) : St fs h ps ((gs ++ [(⟨h, u, ps⟩ : Ent)]) ++ [e]) (i + 1) true := by
  rcases s with ⟨_, rfl, k⟩ | ⟨c, _⟩
  · have hl := (List.getElem?_eq_some_iff.1 he).1
    refine Or.inr ⟨rfl, u, i, by omega, ?_, k, fun x hx => by rw [he] at hx; obtain rfl := Option.some.inj hx; exact hn⟩
    rw [take_one he, List.drop_append_of_le_length (by rw [List.length_take]; omega), List.drop_eq_nil_of_le (by rw [List.length_take]; omega)]
    simp
  · cases c
theorem St.on {fs : List Ent} {h : Hd} {ps : List Pt} {gs : List Ent} {i : Nat} {e : Ent} (s : St fs h ps gs i true) (he : fs[i]? = some e) : St fs h ps (gs ++ [e]) (i + 1) true := by
  rcases s with ⟨c, _⟩ | ⟨_, u, m, hm, rfl, k, l⟩
  · cases c
  · have hl := (List.getElem?_eq_some_iff.1 he).1
    refine Or.inr ⟨rfl, u, m, by omega, ?_, k, l⟩
    rw [take_one he, List.drop_append_of_le_length (by rw [List.length_take]; omega)]
    simp
theorem St.endT {fs : List Ent} {h : Hd} {ps : List Pt} {gs : List Ent} (s : St fs h ps gs fs.length true) (hu : ∀ x ∈ fs, ¬ x.h.nm = h.nm) : ∃ u, gs = ins fs ⟨h, u, ps⟩ := by
  rcases s with ⟨c, _⟩ | ⟨_, u, m, hm, rfl, k, l⟩
  · cases c
  · refine ⟨u, ?_⟩
    unfold ins
    rw [show rk fs (⟨h, u, ps⟩ : Ent).h = m from rk_is fs h m (by omega) hu k l, List.take_length]
theorem St.endF {fs : List Ent} {h : Hd} {ps : List Pt} {gs : List Ent} (s : St fs h ps gs fs.length false) (hu : ∀ x ∈ fs, ¬ x.h.nm = h.nm) (u : Value) : gs ++ [(⟨h, u, ps⟩ : Ent)] = ins fs ⟨h, u, ps⟩ := by
  rcases s with ⟨_, rfl, k⟩ | ⟨c, _⟩
  · unfold ins
    rw [show rk fs (⟨h, u, ps⟩ : Ent).h = fs.length from rk_is fs h fs.length (Nat.le_refl _) hu k (fun e he => by simp at he), List.drop_length]
  · cases c
/-- One card more, that lay there before. -/
theorem good_old {wr w7 : World} {v v' : Value} {base : Nat} {gs : List Ent} {e : Ent} {ok : Nat → Prop} (hG : Good (fun k => ok k ∧ some k ≠ v.ownBlock) wr gs) (hO : wr.ownsRow base 56 9 v gs.length (ecells gs)) (hE : PsOk (fun k => ok k ∧ k < base) wr e.v e.ps) (hb : base ≤ wr.heap.size) (g7 : (wr.alloc (.cells (ccs e.h e.v) 56)).grownBy w7 v.ownBlock) (hv : v'.ownBlock = v.ownBlock ∨ v'.ownBlock = some (wr.alloc (.cells (ccs e.h e.v) 56)).heap.size) : Good (fun k => ok k ∧ some k ≠ v'.ownBlock) w7 (gs ++ [e]) := by
  have sz3 : wr.heap.size < (wr.alloc (.cells (ccs e.h e.v) 56)).heap.size := by simp
  have key : ∀ k, some k ≠ v.ownBlock → k < wr.heap.size → some k ≠ v'.ownBlock := fun k h2 h3 => by
    rcases hv with e | e
    · rw [e]; exact h2
    · rw [e]
      intro e'
      injection e' with e'
      omega
  intro x hx
  rcases List.mem_append.1 hx with hx | hx
  · have h1 := ((hG x hx).old).keep (World.grownBy_alloc wr (.cells (ccs e.h e.v) 56) none)
    have h2 := h1.keepR g7 (fun k hk => hk.1.2)
    exact h2.mono fun k hk => ⟨hk.1.1, key k hk.1.2 (by omega)⟩
  · obtain rfl : x = e := by simpa using hx
    have h1 := hE.keep (World.grownBy_alloc wr (.cells (ccs x.h x.v) 56) none)
    have ne : ∀ k, k < base → some k ≠ v.ownBlock := fun k hk e' => by
      have := (World.ownsRow.lt hO k e'.symm).1
      omega
    have h2 := h1.keepR g7 (fun k hk => ne k hk.2)
    exact h2.mono fun k hk => ⟨hk.1, key k (ne k hk.2) (by omega)⟩
end Go.Proofs.YtknlcjhcamhfmaaGreatDoor
namespace Go.Proofs.YtknlcjhcamhfmaaGreatDoor
open Go.RowKit

def bv (s : Int) : BitVec 16 := BitVec.ofInt 16 s
theorem wrap_bv (x : BitVec 16) : IntKind.u16.wrap (x.toNat : Int) = (x.toNat : Int) := by
  have := x.isLt
  rw [IntKind.wrap_u16]
  omega
theorem bv_nat (x : BitVec 16) : bv (x.toNat : Int) = x := by
  unfold bv
  rw [BitVec.ofInt_natCast, BitVec.ofNat_toNat, BitVec.setWidth_eq]
theorem bits_andNot (a b : Int) : bits .andNot .u16 a b = ((bv a &&& ~~~bv b).toNat : Int) := by
  show IntKind.u16.wrap ((BitVec.ofInt 16 a &&& ~~~BitVec.ofInt 16 b).toNat : Int) = _
  rw [wrap_bv]; rfl
theorem bits_or (a b : Int) : bits .or .u16 a b = ((bv a ||| bv b).toNat : Int) := by
  show IntKind.u16.wrap ((BitVec.ofInt 16 a ||| BitVec.ofInt 16 b).toNat : Int) = _
  rw [wrap_bv]; rfl
theorem check_bv (s : Int) : tCheck s = (bv s &&& ~~~255#16 == 0#16) := by
  unfold tCheck; rw [bits_andNot]
  have e : bv 255 = 255#16 := by decide
  rw [e]
  by_cases h : bv s &&& ~~~255#16 = 0#16
  · rw [h]; rfl
  · have hn : ¬ (bv s &&& ~~~255#16).toNat = 0 := fun e => h (BitVec.eq_of_toNat_eq (by rw [e]; rfl))
    have h1 : ¬ ((bv s &&& ~~~255#16).toNat : Int) = 0 := by omega
    rw [beq_eq_false_iff_ne.2 h1, beq_eq_false_iff_ne.2 h]
theorem bv_part (x m : BitVec 16) : (x &&& ~~~m = 0#16) ↔ (x &&& m = x) := by
  constructor
  · intro h
    apply BitVec.eq_of_getLsbD_eq
    intro i hi
    have hb : (x &&& ~~~m).getLsbD i = false := by rw [h, BitVec.getLsbD_zero]
    rw [BitVec.getLsbD_and, BitVec.getLsbD_not] at hb
    rw [BitVec.getLsbD_and]
    revert hb
    cases x.getLsbD i <;> cases m.getLsbD i <;> simp [hi]
  · intro h
    apply BitVec.eq_of_getLsbD_eq
    intro i hi
    have hb : (x &&& m).getLsbD i = x.getLsbD i := by rw [h]
    rw [BitVec.getLsbD_and] at hb
    rw [BitVec.getLsbD_and, BitVec.getLsbD_not, BitVec.getLsbD_zero]
    revert hb
    cases x.getLsbD i <;> cases m.getLsbD i <;> simp
theorem check_is (s : Int) (h0 : 0 ≤ s) (h1 : s < 65536) : tCheck s = decide (s < 256) := by
  obtain ⟨n, rfl⟩ := Int.eq_ofNat_of_zero_le h0
  rw [check_bv]
  have hn : (bv (n : Int)).toNat = n := by
    unfold bv
    rw [BitVec.ofInt_natCast, BitVec.toNat_ofNat]
    omega
  have hm : (bv (n : Int) &&& 255#16).toNat = n % 256 := by
    rw [BitVec.toNat_and, hn]
    exact Nat.and_two_pow_sub_one_eq_mod n 8
  by_cases h : n < 256
  · have e : bv (n : Int) &&& ~~~255#16 = 0#16 := (bv_part _ _).2 (BitVec.eq_of_toNat_eq (by rw [hm, hn]; omega))
    have h' : (n : Int) < 256 := by omega
    rw [e, decide_eq_true h']
    rfl
  · have e : ¬ bv (n : Int) &&& ~~~255#16 = 0#16 := fun e => by
      have := congrArg BitVec.toNat ((bv_part _ _).1 e)
      rw [hm, hn] at this
      omega
    have h' : ¬ (n : Int) < 256 := by omega
    rw [decide_eq_false h', beq_eq_false_iff_ne.2 e]
end Go.Proofs.YtknlcjhcamhfmaaGreatDoor
