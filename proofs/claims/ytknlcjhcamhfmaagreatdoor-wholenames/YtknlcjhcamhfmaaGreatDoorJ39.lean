/-
  The six suits' fills, plainly: whatever the order, nothing is refused, and the book is the same.
  addAll of package whole: marks, traits, cards, one behind the other, into a book that takes them.
  The closure of fill; addAll of traits.
-/
import Derived.Test.YtknlcjhcamhfmaaGreatDoorJ21
import Derived.Test.YtknlcjhcamhfmaaGreatDoorJ23
import Derived.Test.YtknlcjhcamhfmaaGreatDoorJ24
import Derived.Test.YtknlcjhcamhfmaaGreatDoorJ26
import Derived.Test.YtknlcjhcamhfmaaGreatDoorJ28
import Derived.Test.YtknlcjhcamhfmaaGreatDoorJ29
import Derived.Test.YtknlcjhcamhfmaaGreatDoorJ31
import Derived.Test.YtknlcjhcamhfmaaGreatDoorJ16
import Derived.Test.YtknlcjhcamhfmaaGreatDoorJ38
namespace Go.Proofs.YtknlcjhcamhfmaaGreatDoor
open Go.RowKit

/-- What the six have: marks, traits, cards. -/
def sMs : Nat → List Mk
  | 0 => [] | 1 => [Ea.mk] | 2 => [Fr.mk] | 3 => [] | 4 => [Vo.mk] | _ => [Gd.mk]
def sTs : Nat → List Int
  | 0 => [1, 8] | 1 => [2] | 2 => [3] | 3 => [4, 5] | 4 => [6] | _ => [7]
def sCs : Nat → List (Hd × List Pt)
  | 0 => Ai.specL | 1 => Ea.specL | 2 => Fr.specL | 3 => Wa.specL | 4 => Vo.specL | _ => Gd.specL
/-- Marks, traits, one behind the other. -/
def pMs (p : Pl) (l : List Mk) : Pl := l.foldl maP p
def pTs (p : Pl) (l : List Int) : Pl := l.foldl (fun p t => trP p t (tName t)) p
def okMs (p : Pl) : List Mk → Prop
  | [] => True
  | m :: r => maE p m = 0 ∧ okMs (maP p m) r
def okTs (p : Pl) : List Int → Prop
  | [] => True
  | t :: r => (1 ≤ t ∧ t ≤ 8) ∧ trE p t (tName t) = 0 ∧ okTs (trP p t (tName t)) r
def okMsB (p : Pl) : List Mk → Bool
  | [] => true
  | m :: r => decide (maE p m = 0) && okMsB (maP p m) r
def okTsB (p : Pl) : List Int → Bool
  | [] => true
  | t :: r => (decide (1 ≤ t) && decide (t ≤ 8)) && (decide (trE p t (tName t) = 0) && okTsB (trP p t (tName t)) r)
theorem okMs_of : ∀ {l : List Mk} {p : Pl}, okMsB p l = true → okMs p l
  | [], _, _ => trivial
  | m :: r, p, h => by
    simp only [okMsB, Bool.and_eq_true, decide_eq_true_eq] at h
    exact ⟨h.1, okMs_of h.2⟩
theorem okTs_of : ∀ {l : List Int} {p : Pl}, okTsB p l = true → okTs p l
  | [], _, _ => trivial
  | t :: r, p, h => by
    simp only [okTsB, Bool.and_eq_true, decide_eq_true_eq] at h
    exact ⟨h.1, h.2.1, okTs_of h.2.2⟩
theorem okMs_at : ∀ {l : List Mk} {p : Pl}, okMs p l → ∀ {j : Nat} {m : Mk}, l[j]? = some m → maE (pMs p (l.take j)) m = 0
  | [], _, _, j, m, h => by simp at h
  | x :: r, p, k, 0, m, h => by
    obtain rfl : x = m := by simpa using h
    exact k.1
  | x :: r, p, k, j + 1, m, h => okMs_at (l := r) k.2 (by simpa using h)
theorem okTs_at : ∀ {l : List Int} {p : Pl}, okTs p l → ∀ {j : Nat} {t : Int}, l[j]? = some t → (1 ≤ t ∧ t ≤ 8) ∧ trE (pTs p (l.take j)) t (tName t) = 0
  | [], _, _, j, m, h => by simp at h
  | x :: r, p, k, 0, m, h => by
    obtain rfl : x = m := by simpa using h
    exact ⟨k.1, k.2.1⟩
  | x :: r, p, k, j + 1, m, h => okTs_at (l := r) k.2.2 (by simpa using h)
theorem pMs_snoc (p : Pl) (l : List Mk) {j : Nat} {m : Mk} (h : l[j]? = some m) : pMs p (l.take (j + 1)) = maP (pMs p (l.take j)) m := by
  unfold pMs
  rw [List.take_add_one, h]
  simp
theorem pTs_snoc (p : Pl) (l : List Int) {j : Nat} {t : Int} (h : l[j]? = some t) : pTs p (l.take (j + 1)) = trP (pTs p (l.take j)) t (tName t) := by
  unfold pTs
  rw [List.take_add_one, h]
  simp
/-- What a book that was filled by some of the six holds beside its cards. -/
def pick {α : Type} (b : Bool) (x y : α) : α := match b with | true => x | false => y
def pM (a0 a1 a2 a3 a4 a5 : Bool) : Pl := ⟨false, [⟨#[]⟩, pick a0 (tName 1) ⟨#[]⟩, pick a1 (tName 2) ⟨#[]⟩, pick a2 (tName 3) ⟨#[]⟩, pick a3 (tName 4) ⟨#[]⟩, pick a3 (tName 5) ⟨#[]⟩, pick a4 (tName 6) ⟨#[]⟩, pick a5 (tName 7) ⟨#[]⟩, pick a0 (tName 8) ⟨#[]⟩], [Mk.none, pick a5 Gd.mk Mk.none, pick a4 Vo.mk Mk.none, pick a1 Ea.mk Mk.none, pick a2 Fr.mk Mk.none]⟩
def pL (l : List Nat) : Pl := pM (l.contains 0) (l.contains 1) (l.contains 2) (l.contains 3) (l.contains 4) (l.contains 5)
theorem pL_nil : pL [] = plNew := rfl
/-- One fill takes what is not there yet. -/
def stepOk (k : Nat) (p q : Pl) : Prop := okMs p (sMs k) ∧ okTs (pMs p (sMs k)) (sTs k) ∧ pTs (pMs p (sMs k)) (sTs k) = q
def stepB (k : Nat) (p q : Pl) : Bool := okMsB p (sMs k) && (okTsB (pMs p (sMs k)) (sTs k) && samePl 0 (pTs (pMs p (sMs k)) (sTs k)) 0 q)
theorem pl_of {p q : Pl} (h : samePl 0 p 0 q = true) : p = q := by
  obtain ⟨_, h1, h2, h3⟩ := samePl_iff.1 h
  obtain ⟨a, b, c⟩ := p
  obtain ⟨d, e, f⟩ := q
  simp only at h1 h2 h3
  rw [h1, h2, h3]
theorem step_of {k : Nat} {p q : Pl} (h : stepB k p q = true) : stepOk k p q := by
  simp only [stepB, Bool.and_eq_true] at h
  exact ⟨okMs_of h.1, okTs_of h.2.1, pl_of h.2.2⟩
set_option maxRecDepth 100000 in
theorem step0 : ∀ a1 a2 a3 a4 a5 : Bool, stepB 0 (pM false a1 a2 a3 a4 a5) (pM true a1 a2 a3 a4 a5) = true := by decide +kernel
set_option maxRecDepth 100000 in
theorem step1 : ∀ a0 a2 a3 a4 a5 : Bool, stepB 1 (pM a0 false a2 a3 a4 a5) (pM a0 true a2 a3 a4 a5) = true := by decide +kernel
set_option maxRecDepth 100000 in
theorem step2 : ∀ a0 a1 a3 a4 a5 : Bool, stepB 2 (pM a0 a1 false a3 a4 a5) (pM a0 a1 true a3 a4 a5) = true := by decide +kernel
set_option maxRecDepth 100000 in
theorem step3 : ∀ a0 a1 a2 a4 a5 : Bool, stepB 3 (pM a0 a1 a2 false a4 a5) (pM a0 a1 a2 true a4 a5) = true := by decide +kernel
set_option maxRecDepth 100000 in
theorem step4 : ∀ a0 a1 a2 a3 a5 : Bool, stepB 4 (pM a0 a1 a2 a3 false a5) (pM a0 a1 a2 a3 true a5) = true := by decide +kernel
set_option maxRecDepth 100000 in
theorem step5 : ∀ a0 a1 a2 a3 a4 : Bool, stepB 5 (pM a0 a1 a2 a3 a4 false) (pM a0 a1 a2 a3 a4 true) = true := by decide +kernel
theorem cont_snoc (l : List Nat) (k i : Nat) : (l ++ [k]).contains i = (l.contains i || (i == k)) := by 
  simp only [List.contains_eq_mem, List.mem_append, List.mem_singleton, Bool.decide_or]
  rfl
theorem fstep_any (l : List Nat) (k : Nat) (hk : k < 6) (hl : ¬ k ∈ l) : stepOk k (pL l) (pL (l ++ [k])) := by
  have hc : l.contains k = false := by simpa using hl
  unfold pL
  simp only [cont_snoc]
  rcases (show k = 0 ∨ k = 1 ∨ k = 2 ∨ k = 3 ∨ k = 4 ∨ k = 5 by omega) with rfl | rfl | rfl | rfl | rfl | rfl <;> rw [hc] <;> simp only [Nat.reduceBEq, Bool.or_false, Bool.or_true]
  · exact step_of (step0 _ _ _ _ _)
  · exact step_of (step1 _ _ _ _ _)
  · exact step_of (step2 _ _ _ _ _)
  · exact step_of (step3 _ _ _ _ _)
  · exact step_of (step4 _ _ _ _ _)
  · exact step_of (step5 _ _ _ _ _)
/-- Each of the six once. -/
def Ord6 (l : List Nat) : Prop := l.Perm [0, 1, 2, 3, 4, 5]
theorem Ord6.mem {l : List Nat} (h : Ord6 l) {k : Nat} (hk : k < 6) : k ∈ l := h.mem_iff.2 (by simp; omega)
theorem Ord6.lt {l : List Nat} (h : Ord6 l) {k : Nat} (hk : k ∈ l) : k < 6 := by have := h.mem_iff.1 hk; simp at this; omega
theorem Ord6.nodup {l : List Nat} (h : Ord6 l) : l.Nodup := h.nodup_iff.2 (by decide)
theorem Ord6.len {l : List Nat} (h : Ord6 l) : l.length = 6 := h.length_eq
def pAll : Pl := pM true true true true true true
theorem Ord6.pL {l : List Nat} (h : Ord6 l) : pL l = pAll := by
  have c : ∀ k, k < 6 → l.contains k = true := fun k hk => by simpa using h.mem hk
  unfold Go.Proofs.YtknlcjhcamhfmaaGreatDoor.pL
  rw [c 0 (by omega), c 1 (by omega), c 2 (by omega), c 3 (by omega), c 4 (by omega), c 5 (by omega)]
  rfl
/-- The cards of some of the six. -/
def cL (l : List Nat) : List (Hd × List Pt) := l.flatMap sCs
def cAll : List (Hd × List Pt) := cL [0, 1, 2, 3, 4, 5]
theorem Ord6.cL {l : List Nat} (h : Ord6 l) : (cL l).Perm cAll := List.Perm.flatMap_right _ h
set_option maxRecDepth 100000 in
theorem cAll_chk : ∀ x ∈ cAll, cchk (x.1.with x.2) = 0 := by decide +kernel
set_option maxRecDepth 100000 in
theorem cAll_four : ∀ x ∈ cAll, x.2.length ≤ 4 := by decide +kernel
set_option maxRecDepth 100000 in
theorem cAll_nod : (cAll.map fun x => x.1.nm).Nodup := by decide +kernel
set_option maxRecDepth 100000 in
theorem cAll_len : cAll.length = 36 := by decide +kernel
theorem sCs_mem {k : Nat} (hk : k < 6) {x : Hd × List Pt} (hx : x ∈ sCs k) : x ∈ cAll := List.mem_flatMap.2 ⟨k, by simp; omega, hx⟩
theorem sCs_len {k : Nat} (hk : k < 6) : (sCs k).length = 6 := by
  rcases (show k = 0 ∨ k = 1 ∨ k = 2 ∨ k = 3 ∨ k = 4 ∨ k = 5 by omega) with rfl | rfl | rfl | rfl | rfl | rfl <;> rfl
/-- A card that is not there yet is taken: done: those that are there. -/
theorem card_taken {done : List (Hd × List Pt)} {es : List Ent} {p : Pl} {c : Hd × List Pt} (hE : (es.map hp).Perm done) (hn : ¬ c.1.nm ∈ done.map (fun x => x.1.nm)) (hc : cchk (c.1.with c.2) = 0) (hl : done.length < 64) (hs : p.shut = false) : caE p es (c.1.with c.2) = 0 := by
  have e1 : names es = (es.map hp).map (fun x => x.1.nm) := by rw [List.map_map]; rfl
  have hl2 : es.length = done.length := by have := hE.length_eq; simpa using this
  unfold caE
  rw [if_neg (by simp [hs]), if_neg (by simp [hc]), if_neg ?_, if_neg (by omega)]
  intro h0
  have hm := List.mem_of_getElem? (pos_yes _ _ h0)
  rw [e1] at hm
  exact hn ((hE.map _).mem_iff.1 hm)
theorem ins_hp : ∀ (es : List Ent) (e : Ent), ((ins es e).map hp).Perm (hp e :: es.map hp)
  | [], e => List.Perm.refl _
  | y :: r, e => by
    rw [ins_cons]
    split
    · exact (List.Perm.cons _ (ins_hp r e)).trans (List.Perm.swap _ _ _)
    · exact List.Perm.refl _
/-- Two rows in order of the same cards are one. -/
theorem row_one : ∀ {a b : List Ent}, Srt a → Srt b → (a.map hp).Perm (b.map hp) → a.map hp = b.map hp
  | [], [], _, _, _ => rfl
  | [], y :: s, _, _, h => by have := h.length_eq; simp at this
  | x :: r, [], _, _, h => by have := h.length_eq; simp at this
  | x :: r, y :: s, ha, hb, h => by
    unfold Srt at ha hb
    rw [List.pairwise_cons] at ha hb
    have e : hp x = hp y := by
      have h1 : hp x ∈ (y :: s).map hp := h.mem_iff.1 (by simp)
      have h2 : hp y ∈ (x :: r).map hp := h.mem_iff.2 (by simp)
      obtain ⟨y', hy', e1⟩ := List.mem_map.1 h1
      obtain ⟨x', hx', e2⟩ := List.mem_map.1 h2
      rcases List.mem_cons.1 hy' with rfl | hy'
      · exact e1.symm
      · rcases List.mem_cons.1 hx' with rfl | hx'
        · exact e2
        · have k1 := hb.1 y' hy'
          have k2 := ha.1 x' hx'
          rw [show y'.h = x.h from congrArg Prod.fst e1] at k1
          rw [show x'.h = y.h from congrArg Prod.fst e2] at k2
          exact absurd (k1.trans k2) (Ahd.irrefl _)
    rw [List.map_cons, List.map_cons] at h ⊢
    rw [e] at h ⊢
    rw [row_one ha.2 hb.2 h.cons_inv]
def mkE (x : Hd × List Pt) : Ent := ⟨x.1, .bool false, x.2⟩
def rowOf (l : List (Hd × List Pt)) (a : List Ent) : List Ent := l.foldl (fun es x => ins es (mkE x)) a
theorem rowOf_perm : ∀ (l : List (Hd × List Pt)) (a : List Ent), ((rowOf l a).map hp).Perm (a.map hp ++ l)
  | [], a => by simp [rowOf]
  | x :: r, a => by
    refine (rowOf_perm r (ins a (mkE x))).trans ?_
    refine ((ins_hp a (mkE x)).append_right r).trans ?_
    exact List.perm_middle.symm
def rowAll : List Ent := rowOf cAll []
theorem rowAll_perm : (rowAll.map hp).Perm cAll := rowOf_perm cAll []
set_option maxRecDepth 100000 in
theorem rowAll_srt : Srt rowAll := srt_of (by decide +kernel)
theorem row_full {es : List Ent} (s : Srt es) (h : (es.map hp).Perm cAll) : es.map hp = rowAll.map hp := row_one s rowAll_srt (h.trans rowAll_perm.symm)
theorem hp_eqE : ∀ {a b : List Ent}, a.map hp = b.map hp → sameEs a b = true
  | [], [], _ => rfl
  | [], _ :: _, h => by simp at h
  | _ :: _, [], h => by simp at h
  | x :: r, y :: t, h => by
    rw [List.map_cons, List.map_cons] at h
    injection h with h1 h2
    unfold sameEs sameE
    rw [show x.h = y.h from congrArg Prod.fst h1, show x.ps = y.ps from congrArg Prod.snd h1, sameHd_refl, samePs_refl, hp_eqE h2]
    rfl
set_option maxRecDepth 100000 in
theorem seal_rowAll : sealE pAll rowAll = 0 := by decide +kernel
theorem seal_full {es : List Ent} (h : es.map hp = rowAll.map hp) : sealE pAll es = 0 := (sealE_of (hp_eqE h) rfl).trans seal_rowAll
def pShut : Pl := { pAll with shut := true }
theorem sealP_full {es : List Ent} (h : es.map hp = rowAll.map hp) : sealP pAll es = pShut := if_pos (seal_full h)
theorem full_len {es : List Ent} (h : es.map hp = rowAll.map hp) : es.length = 36 := by
  have h1 := congrArg List.length h
  have h2 := rowAll_perm.length_eq
  rw [cAll_len] at h2
  simp only [List.length_map] at h1 h2
  omega
theorem full_nod {es : List Ent} (h : es.map hp = rowAll.map hp) : (names es).Nodup := by
  have e1 : names es = (es.map hp).map (fun x => x.1.nm) := by rw [List.map_map]; rfl
  rw [e1, h, (rowAll_perm.map _).nodup_iff]
  exact cAll_nod
end Go.Proofs.YtknlcjhcamhfmaaGreatDoor
namespace Go.Proofs.YtknlcjhcamhfmaaGreatDoor
open Go.RowKit

/-- Marks in a block of their own, beside the book. -/
def MsAt (w : World) (b : Nat) (v : Value) (ms : List Mk) : Prop := ∃ a, v = .slice a ms.length ms.length ∧ (0 < ms.length → ∃ g, a = some ⟨g, 0, none⟩ ∧ ¬ g = b ∧ w.heap[g]? = some (.cells (mcells ms).toArray 60 (0, 0)))
/-- Traits likewise. -/
def TsAt (w : World) (b : Nat) (v : Value) (ts : List Int) : Prop := ∃ a, v = .slice a ts.length ts.length ∧ (0 < ts.length → ∃ g, a = some ⟨g, 0, none⟩ ∧ ¬ g = b ∧ w.heap[g]? = some (.cells (ts.map (Value.int .u8)).toArray 57 (0, 0)))
theorem m4_of {w : World} {g : Nat} {ms : List Mk} (h : w.heap[g]? = some (.cells (mcells ms).toArray 60 (0, 0))) {j : Nat} {m : Mk} (hm : ms[j]? = some m) : M4 w g (j * 4) m := by
  have at_ : ∀ k u, k < 4 → (mvs m)[k]? = some u → w.cell? ⟨g, j * 4 + k, none⟩ = some u := fun k u hk hu => by
    rw [block_cell h, List.getElem?_toArray, mcells_at ms j m hm k hk]
    exact hu
  exact ⟨at_ 0 _ (by omega) rfl, at_ 1 _ (by omega) rfl, at_ 2 _ (by omega) rfl, at_ 3 _ (by omega) rfl⟩
set_option maxRecDepth 100000 in
set_option maxHeartbeats 4000000 in
theorem addM_any (ok : Nat → Prop) (b : Nat) (es : List Ent) (p : Pl) (ms : List Mk) (v : Value) (w : World) (B : Book ok w b es p) (hok : ¬ ok b) (hM : MsAt w b v ms) (hk : okMs p ms) (h4 : ms.length ≤ 4) : Calls Tryz.prog 183 #[v, .func (.func 27) #[.pointer (some ⟨b, 0, none⟩)] #[]] w fun e w' => e = .returned (.int .i64 0) ∧ Book ok w' b es (pMs p ms) ∧ w.grownBy w' (some b) := by
  obtain ⟨a, rfl, HM0⟩ := hM
  have HM : Hid (0 < ms.length → ∃ g, a = some ⟨g, 0, none⟩ ∧ ¬ g = b ∧ w.heap[g]? = some (.cells (mcells ms).toArray 60 (0, 0))) := HM0
  have HK : Hid (okMs p ms) := hk
  have HB : Hid (Book ok w b es p) := B
  have hsm : Small ms.length := by unfold Small; omega
  clear HM0 hk B h4
  go_enter Tryz.func183, Tryz.ntmps183
  go_wp2_with fail
  go_loopw [10] (fun x wr => ∃ j : Nat, j ≤ ms.length ∧ x = .int .i64 (j : Int) ∧ Book ok wr b es (pMs p (ms.take j)) ∧ w.grownBy wr (some b)) (fun x _ => ms.length - (intOf x).toNat)
  case atStart => exact ⟨0, Nat.zero_le _, rfl, HB.out, grown_refl _ _⟩
  case round =>
    clear HB
    obtain ⟨j, hj, rfl, B, Gr⟩ := hrel
    obtain ⟨U, hU⟩ : ∃ U, U = wr := ⟨_, rfl⟩
    subst hU
    have HB : Hid (Book ok U b es (pMs p (ms.take j))) := B
    have HG : Hid (w.grownBy U (some b)) := Gr
    clear B Gr
    rcases (show j < ms.length ∨ j = ms.length from by omega) with h1 | h1
    · have h1' : (j : Int) < (ms.length : Int) := by omega
      have j0 : (0 : Int) ≤ (j : Int) := by omega
      obtain ⟨g, rfl, hgb, Hg⟩ := HM.out (by omega)
      obtain ⟨m, hm⟩ : ∃ m, ms[j]? = some m := ⟨_, List.getElem?_eq_getElem h1⟩
      have HC := m4_of (grown_keep HG.out Hg (fun e => hgb (by injection e))) hm
      have HZ := okMs_at HK.out hm
      have HN : Hid (pMs p (ms.take (j + 1)) = maP (pMs p (ms.take j)) m) := pMs_snoc p ms hm
      clear hm Hg
      obtain ⟨mi, nm, po, he⟩ := m
      obtain ⟨c0, c1, c2, c3⟩ := HC
      simp only at c0 c1 c2 c3
      have CM := fun W (g : U.grownBy W none) => bmark ok b es (pMs p (ms.take j)) ⟨mi, nm, po, he⟩ W (HB.out.keep g) hok
      rw [HZ] at CM
      unfold mv at CM
      simp only at CM
      have HCM : Hid (∀ W, U.grownBy W none → _) := CM
      clear CM HZ
      go_wp2_with fail
      refine (HCM.out _ (World.grownBy_alloc _ _ none)).mono ?_
      rintro e U2 ⟨rfl, B2, g2⟩
      have HB2 : Hid (Book ok U2 b es (pMs p (ms.take (j + 1)))) := by rw [HN.out]; exact B2
      have HG2 : Hid (w.grownBy U2 (some b)) := HG.out.trans (grown_own' (World.grownBy_alloc _ _ none) g2)
      clear B2 g2 HCM c0 c1 c2 c3
      go_wp2_with fail
      go_roundw
      case rel => exact ⟨j + 1, h1, by first | rfl | (rw [hsm.wrap h1]; rfl), HB2.out, HG2.out⟩
      case measure => first | exact meas_next h1 | (rw [hsm.wrap h1]; exact meas_next h1)
    · have h1' : ¬ (j : Int) < (ms.length : Int) := by omega
      have HF : Hid (Book ok U b es (pMs p ms)) := by have h9 := HB.out; rw [h1, List.take_of_length_le (Nat.le_refl _)] at h9; exact h9
      clear h1 HB
      go_wp2
      go_ret
      exact ⟨rfl, HF.out, HG.out⟩
end Go.Proofs.YtknlcjhcamhfmaaGreatDoor
namespace Go.Proofs.YtknlcjhcamhfmaaGreatDoor
open Go.RowKit

theorem NamesAt.keepR {w w' : World} {r : Option Nat} (h : NamesAt w) (g : w.grownBy w' r) (hr : some 0 ≠ r) : NamesAt w' := ⟨g.cell h.1 hr, g.cell h.2.1 hr, g.cell h.2.2.1 hr, g.cell h.2.2.2.1 hr, g.cell h.2.2.2.2.1 hr, g.cell h.2.2.2.2.2.1 hr, g.cell h.2.2.2.2.2.2.1 hr, g.cell h.2.2.2.2.2.2.2 hr⟩
set_option maxRecDepth 100000 in
set_option maxHeartbeats 4000000 in
theorem fill1_any (ok : Nat → Prop) (b x : Nat) (es : List Ent) (p : Pl) (t : Int) (w : World) (B : Book ok w b es p) (hok : ¬ ok b) (N : NamesAt w) (hx : w.cell? ⟨x, 0, none⟩ = some (.pointer (some ⟨b, 0, none⟩))) (hxb : ¬ x = b) (ht : 1 ≤ t ∧ t ≤ 8) : Calls Tryz.prog 184 #[.int .u8 t, .pointer (some ⟨x, 0, none⟩)] w fun e w' => e = .returned (.int .i64 (trE p t (tName t))) ∧ Book ok w' b es (trP p t (tName t)) ∧ w.grownBy w' (some b) := by
  have C1 : Calls Tryz.prog 185 #[.int .u8 t] w.drew fun e w' => e = .returned (.string (tName t)) ∧ w' = w.drew := tname_any t ht w.drew (N.keep (grown_drew _))
  have C2 : Calls Tryz.prog 26 #[.pointer (some ⟨b, 0, none⟩), .int .u8 t, .string (tName t)] w.drew fun e w' => e = .returned (.int .i64 (trE p t (tName t))) ∧ Book ok w' b es (trP p t (tName t)) ∧ w.drew.grownBy w' (some b) := btrait ok b es p t (tName t) w.drew (B.keep (grown_drew _)) hok
  obtain ⟨s, hs⟩ : ∃ s, s = tName t := ⟨_, rfl⟩
  rw [← hs] at C1 C2
  rw [← hs]
  obtain ⟨r, hr⟩ : ∃ r, r = trE p t s := ⟨_, rfl⟩
  rw [← hr] at C2
  rw [← hr]
  have H0 : w.grownBy w.drew (some b) := grown_drew' _ _
  clear B N ht hok hs hr
  go_enter Tryz.func184, Tryz.ntmps184
  go_upto_region 1 with fail
  refine wp_region_held_drew (S := fun w' => w.grownBy w' (some b)) (by kernel_rfl) H0 (fun hHeld => ?_)
  refine wpAnyH_take (i := 0) (v := ?_) rfl (by kernel_rfl) (by kernel_rfl) (by kernel_rfl) (fun _ _ _ h => h) (Or.inl ⟨by rfl, ?_⟩) (by assumption) ?_
  rotate_left 1
  · (intro w0 hSw; have a9 := World.grownBy.cell hSw hx (by simpa using hxb); go_simp; try with_reducible rfl)
  simp only [List.getElem_toArray, List.getElem_cons_zero]
  go_frame
  refine wpAnyH_take (i := 1) (v := ?_) rfl (by kernel_rfl) (by kernel_rfl) (by kernel_rfl) (fun _ _ _ h => h) (Or.inl ⟨by rfl, ?_⟩) (by assumption) ?_
  rotate_left 1
  · (intro w0 hSw; go_simp; try with_reducible rfl)
  simp only [List.getElem_toArray, List.getElem_cons_zero, List.getElem_cons_succ]
  go_frame
  refine wpAnyH_take (i := 2) (v := ?_) rfl (by kernel_rfl) (by kernel_rfl) (by kernel_rfl) (fun _ _ _ h => h) (Or.inl ⟨by rfl, ?_⟩) (by assumption) ?_
  rotate_left 1
  · (intro w0 hSw; go_simp; try with_reducible rfl)
  simp only [List.getElem_toArray, List.getElem_cons_zero, List.getElem_cons_succ]
  go_frame
  refine wpAnyH_ready (rs := [3]) (by kernel_rfl) (by simp) ?_
  refine AllReadyH.cons rfl (fun K hK => ?_) AllReadyH.nil
  simp only [List.getElem_toArray, List.getElem_cons_zero, List.getElem_cons_succ]
  go_simp
  go_at_call 185
  refine (C1).mono ?_
  rintro e U3 ⟨rfl, h3⟩
  subst h3
  refine hK.out _ _ (hHeld) (fun hHeld2 => ?_)
  clear hK K
  (try go_frame)
  refine wpAnyH_ready (rs := [4]) (by kernel_rfl) (by simp) ?_
  refine AllReadyH.cons rfl (fun K hK => ?_) AllReadyH.nil
  simp only [List.getElem_toArray, List.getElem_cons_zero, List.getElem_cons_succ]
  go_simp
  go_at_call 26
  refine (C2).mono ?_
  rintro e U4 ⟨rfl, B4, g4⟩
  refine hK.out _ _ (grown_own' (grown_drew _) g4) (fun hHeld2 => ?_)
  clear hK K
  (try go_frame)
  refine wpAnyH_take (i := 5) (v := ?_) rfl (by kernel_rfl) (by kernel_rfl) (by kernel_rfl) (fun _ _ _ h => h) (Or.inl ⟨by rfl, ?_⟩) (by assumption) ?_
  rotate_left 1
  · (intro w0 hSw; go_simp; try with_reducible rfl)
  simp only [List.getElem_toArray, List.getElem_cons_zero, List.getElem_cons_succ]
  go_frame
  refine wpAnyH_done (by kernel_rfl) ?_ _
  have HF : Hid (Book ok U4 b es (trP p t s) ∧ w.grownBy U4 (some b)) := ⟨B4, grown_own' (grown_drew _) g4⟩
  clear B4 g4 hHeld hHeld2 H0 C1 C2
  go_wp2
  go_ret
  exact ⟨rfl, HF.out.1, HF.out.2⟩
theorem ts_at {w : World} {g : Nat} {ts : List Int} (h : w.heap[g]? = some (.cells (ts.map (Value.int .u8)).toArray 57 (0, 0))) {j : Nat} {t : Int} (ht : ts[j]? = some t) : w.cell? ⟨g, j, none⟩ = some (.int .u8 t) := by
  rw [block_cell h, List.getElem?_toArray, List.getElem?_map, ht]
  rfl
set_option maxRecDepth 100000 in
set_option maxHeartbeats 4000000 in
theorem addT_any (ok : Nat → Prop) (b x : Nat) (es : List Ent) (p : Pl) (ts : List Int) (v : Value) (w : World) (B : Book ok w b es p) (hok : ¬ ok b) (N : NamesAt w) (h0 : ¬ b = 0) (hx : w.cell? ⟨x, 0, none⟩ = some (.pointer (some ⟨b, 0, none⟩))) (hxb : ¬ x = b) (hT : TsAt w b v ts) (hk : okTs p ts) (h4 : ts.length ≤ 4) : Calls Tryz.prog 186 #[v, .func (.func 184) #[] #[.pointer (some ⟨x, 0, none⟩)]] w fun e w' => e = .returned (.int .i64 0) ∧ Book ok w' b es (pTs p ts) ∧ w.grownBy w' (some b) := by
  obtain ⟨a, rfl, HM0⟩ := hT
  have HM : Hid (0 < ts.length → ∃ g, a = some ⟨g, 0, none⟩ ∧ ¬ g = b ∧ w.heap[g]? = some (.cells (ts.map (Value.int .u8)).toArray 57 (0, 0))) := HM0
  have HK : Hid (okTs p ts) := hk
  have HB : Hid (Book ok w b es p) := B
  have HN : Hid (NamesAt w) := N
  have HX : Hid (w.cell? ⟨x, 0, none⟩ = some (.pointer (some ⟨b, 0, none⟩))) := hx
  have hsm : Small ts.length := by unfold Small; omega
  clear HM0 hk B h4 N hx
  go_enter Tryz.func186, Tryz.ntmps186
  go_wp2_with fail
  go_loopw [10] (fun x wr => ∃ j : Nat, j ≤ ts.length ∧ x = .int .i64 (j : Int) ∧ Book ok wr b es (pTs p (ts.take j)) ∧ w.grownBy wr (some b)) (fun x _ => ts.length - (intOf x).toNat)
  case atStart => exact ⟨0, Nat.zero_le _, rfl, HB.out, grown_refl _ _⟩
  case round =>
    clear HB
    obtain ⟨j, hj, rfl, B, Gr⟩ := hrel
    obtain ⟨U, hU⟩ : ∃ U, U = wr := ⟨_, rfl⟩
    subst hU
    have HB : Hid (Book ok U b es (pTs p (ts.take j))) := B
    have HG : Hid (w.grownBy U (some b)) := Gr
    clear B Gr
    rcases (show j < ts.length ∨ j = ts.length from by omega) with h1 | h1
    · have h1' : (j : Int) < (ts.length : Int) := by omega
      have j0 : (0 : Int) ≤ (j : Int) := by omega
      obtain ⟨g, rfl, hgb, Hg⟩ := HM.out (by omega)
      obtain ⟨t, ht⟩ : ∃ m, ts[j]? = some m := ⟨_, List.getElem?_eq_getElem h1⟩
      have c0 := ts_at (grown_keep HG.out Hg (fun e => hgb (by injection e))) ht
      obtain ⟨HR, HZ⟩ := okTs_at HK.out ht
      have HNx : Hid (pTs p (ts.take (j + 1)) = trP (pTs p (ts.take j)) t (tName t)) := pTs_snoc p ts ht
      have CM := fill1_any ok b x es (pTs p (ts.take j)) t U HB.out hok (HN.out.keepR HG.out (by simpa using fun e => h0 e.symm)) (HG.out.cell HX.out (by simpa using hxb)) hxb HR
      rw [HZ] at CM
      clear ht Hg HZ HR
      go_wp2_with fail
      refine CM.mono ?_
      rintro e U2 ⟨rfl, B2, g2⟩
      have HB2 : Hid (Book ok U2 b es (pTs p (ts.take (j + 1)))) := by rw [HNx.out]; exact B2
      have HG2 : Hid (w.grownBy U2 (some b)) := HG.out.trans g2
      clear B2 g2 CM c0
      go_wp2_with fail
      go_roundw
      case rel => exact ⟨j + 1, h1, by first | rfl | (rw [hsm.wrap h1]; rfl), HB2.out, HG2.out⟩
      case measure => first | exact meas_next h1 | (rw [hsm.wrap h1]; exact meas_next h1)
    · have h1' : ¬ (j : Int) < (ts.length : Int) := by omega
      have HF : Hid (Book ok U b es (pTs p ts)) := by have h9 := HB.out; rw [h1, List.take_of_length_le (Nat.le_refl _)] at h9; exact h9
      clear h1 HB
      go_wp2
      go_ret
      exact ⟨rfl, HF.out, HG.out⟩
end Go.Proofs.YtknlcjhcamhfmaaGreatDoor
