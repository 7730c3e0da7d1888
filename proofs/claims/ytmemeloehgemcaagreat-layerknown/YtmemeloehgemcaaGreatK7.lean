/-
  A book in memory: 64 cards of nine cells, then what else it holds; what is read of it.
  book.New; what is a book and what is none; the list of its cards, how many there are, whether it is sealed.
-/
import Derived.Test.YtmemeloehgemcaaGreatK6
import Derived.Deep.CutRange
import Derived.Deep.CutBlock
import Derived.Maps.RangeWalk
namespace Go.Proofs.YtmemeloehgemcaaGreat
open Go.RowKit

structure Mk where
  mi : Int
  nm : ByteArray
  po : Int
  he : Int
def Mk.none : Mk := ⟨0, ⟨#[]⟩, 0, 0⟩
def mvs (m : Mk) : List Value := [.int .u8 m.mi, .string m.nm, .int .i64 m.po, .int .i64 m.he]
def mcells : List Mk → List Value
  | [] => []
  | m :: r => mvs m ++ mcells r
theorem mcells_at : ∀ (ms : List Mk) (j : Nat) (m : Mk), ms[j]? = some m → ∀ k, k < 4 → (mcells ms)[j * 4 + k]? = (mvs m)[k]?
  | [], j, m, h, k, _ => by simp at h
  | q :: r, 0, m, h, k, hk => by
    obtain rfl : q = m := by simpa using h
    simp only [mcells, Nat.zero_mul, Nat.zero_add]
    exact List.getElem?_append_left (by simpa [mvs] using hk)
  | q :: r, j + 1, m, h, k, hk => by
    have ih := mcells_at r j m (by simpa using h) k hk
    simp only [mcells]
    rw [List.getElem?_append_right (by simp [mvs]; omega), ← ih]
    congr 1
    simp [mvs]
    omega
structure Ent where
  h : Hd
  v : Value
  ps : List Pt
def Ent.cd (e : Ent) : Cd := e.h.with e.ps
def cvs (h : Hd) (v : Value) : List Value := [.string h.nm, .int .u8 h.su, .int .u8 h.kd, .int .i64 h.co, .int .i64 h.po, .int .i64 h.he, .int .u16 h.tr, .bool h.tk, v]
def ecells : List Ent → List Value
  | [] => []
  | e :: r => cvs e.h e.v ++ ecells r
theorem ecells_len : ∀ es : List Ent, (ecells es).length = es.length * 9
  | [] => rfl
  | e :: r => by simp only [ecells, List.length_append, ecells_len r, List.length_cons]; simp only [cvs, List.length_cons, List.length_nil]; omega
theorem ecells_app : ∀ a b : List Ent, ecells (a ++ b) = ecells a ++ ecells b
  | [], b => rfl
  | e :: r, b => by simp only [List.cons_append, ecells, ecells_app r b, List.append_assoc]
theorem ecells_at : ∀ (es : List Ent) (j : Nat) (e : Ent), es[j]? = some e → ∀ k, k < 9 → (ecells es)[j * 9 + k]? = (cvs e.h e.v)[k]?
  | [], j, e, h, k, _ => by simp at h
  | q :: r, 0, e, h, k, hk => by
    obtain rfl : q = e := by simpa using h
    simp only [ecells, Nat.zero_mul, Nat.zero_add]
    exact List.getElem?_append_left (by simpa [cvs] using hk)
  | q :: r, j + 1, e, h, k, hk => by
    have ih := ecells_at r j e (by simpa using h) k hk
    simp only [ecells]
    rw [List.getElem?_append_right (by simp [cvs]; omega), ← ih]
    congr 1
    simp [cvs]
    omega
structure Pl where
  shut : Bool
  nms : List ByteArray
  mks : List Mk
def plc (n : Nat) (p : Pl) : List Value := .bool true :: .bool p.shut :: .int .i64 (n : Int) :: (p.nms.map Value.string ++ mcells p.mks)
def bcells (es : List Ent) (junk : List Value) (p : Pl) : List Value := ecells es ++ (junk ++ plc es.length p)
structure BkJ (w : World) (b : Nat) (es : List Ent) (junk : List Value) (p : Pl) : Prop where
  lies : w.heap[b]? = some (.cells (bcells es junk p).toArray 97 (0, 0))
  fit : es.length * 9 + junk.length = 576
  nine : p.nms.length = 9
  five : p.mks.length = 5
def BkIn (w : World) (b : Nat) (es : List Ent) (p : Pl) : Prop := ∃ junk, BkJ w b es junk p
theorem BkJ.cell {w : World} {b : Nat} {es : List Ent} {junk : List Value} {p : Pl} (h : BkJ w b es junk p) (i : Nat) : w.cell? ⟨b, i, none⟩ = (bcells es junk p)[i]? := by
  rw [block_cell h.lies i]; simp
theorem BkJ.tail {w : World} {b : Nat} {es : List Ent} {junk : List Value} {p : Pl} (h : BkJ w b es junk p) (i : Nat) : w.cell? ⟨b, 576 + i, none⟩ = (plc es.length p)[i]? := by
  rw [h.cell]
  unfold bcells
  rw [List.getElem?_append_right (by rw [ecells_len]; have := h.fit; omega), List.getElem?_append_right (by rw [ecells_len]; have := h.fit; omega)]
  congr 1
  rw [ecells_len]
  have := h.fit
  omega
structure C9 (w : World) (g o : Nat) (h : Hd) (v : Value) : Prop where
  c0 : w.cell? ⟨g, o, none⟩ = some (.string h.nm)
  c1 : w.cell? ⟨g, o + 1, none⟩ = some (.int .u8 h.su)
  c2 : w.cell? ⟨g, o + 2, none⟩ = some (.int .u8 h.kd)
  c3 : w.cell? ⟨g, o + 3, none⟩ = some (.int .i64 h.co)
  c4 : w.cell? ⟨g, o + 4, none⟩ = some (.int .i64 h.po)
  c5 : w.cell? ⟨g, o + 5, none⟩ = some (.int .i64 h.he)
  c6 : w.cell? ⟨g, o + 6, none⟩ = some (.int .u16 h.tr)
  c7 : w.cell? ⟨g, o + 7, none⟩ = some (.bool h.tk)
  c8 : w.cell? ⟨g, o + 8, none⟩ = some v
theorem C9.keep {w w' : World} {g o : Nat} {h : Hd} {v : Value} (k : C9 w g o h v) (hg : w.grownBy w' none) : C9 w' g o h v :=
  ⟨hg.cell k.c0 (by simp), hg.cell k.c1 (by simp), hg.cell k.c2 (by simp), hg.cell k.c3 (by simp), hg.cell k.c4 (by simp), hg.cell k.c5 (by simp), hg.cell k.c6 (by simp), hg.cell k.c7 (by simp), hg.cell k.c8 (by simp)⟩
def EsAt (w : World) (g o : Nat) (es : List Ent) : Prop := ∀ (j : Nat) e, es[j]? = some e → C9 w g (o + j * 9) e.h e.v
theorem EsAt.keep {w w' : World} {g o : Nat} {es : List Ent} (h : EsAt w g o es) (k : w.grownBy w' none) : EsAt w' g o es := fun j e he => (h j e he).keep k
theorem BkJ.row {w : World} {b : Nat} {es : List Ent} {junk : List Value} {p : Pl} (h : BkJ w b es junk p) : EsAt w b 0 es := fun j e he => by
  have hj : j < es.length := (List.getElem?_eq_some_iff.1 he).1
  have at_ : ∀ k u, k < 9 → (cvs e.h e.v)[k]? = some u → w.cell? ⟨b, 0 + j * 9 + k, none⟩ = some u := fun k u hk hu => by
    rw [Nat.zero_add, h.cell]
    unfold bcells
    rw [List.getElem?_append_left (by rw [ecells_len]; omega), ecells_at es j e he k hk]
    exact hu
  exact ⟨at_ 0 _ (by omega) rfl, at_ 1 _ (by omega) rfl, at_ 2 _ (by omega) rfl, at_ 3 _ (by omega) rfl, at_ 4 _ (by omega) rfl, at_ 5 _ (by omega) rfl, at_ 6 _ (by omega) rfl, at_ 7 _ (by omega) rfl, at_ 8 _ (by omega) rfl⟩
structure Flags (w : World) (b : Nat) (n : Nat) (p : Pl) : Prop where
  made : w.cell? ⟨b, 576, none⟩ = some (.bool true)
  shut : w.cell? ⟨b, 577, none⟩ = some (.bool p.shut)
  count : w.cell? ⟨b, 578, none⟩ = some (.int .i64 (n : Int))
theorem BkJ.flags {w : World} {b : Nat} {es : List Ent} {junk : List Value} {p : Pl} (h : BkJ w b es junk p) : Flags w b es.length p :=
  ⟨h.tail 0, h.tail 1, h.tail 2⟩
theorem BkJ.name {w : World} {b : Nat} {es : List Ent} {junk : List Value} {p : Pl} (h : BkJ w b es junk p) {t : Nat} {s : ByteArray} (ht : p.nms[t]? = some s) : w.cell? ⟨b, 579 + t, none⟩ = some (.string s) := by
  have hl : t < p.nms.length := (List.getElem?_eq_some_iff.1 ht).1
  have := h.tail (3 + t)
  rw [show 576 + (3 + t) = 579 + t by omega] at this
  rw [this]
  unfold plc
  rw [show 3 + t = t + 1 + 1 + 1 by omega, List.getElem?_cons_succ, List.getElem?_cons_succ, List.getElem?_cons_succ, List.getElem?_append_left (by simpa using hl), List.getElem?_map, ht]
  rfl
structure M4 (w : World) (g o : Nat) (m : Mk) : Prop where
  c0 : w.cell? ⟨g, o, none⟩ = some (.int .u8 m.mi)
  c1 : w.cell? ⟨g, o + 1, none⟩ = some (.string m.nm)
  c2 : w.cell? ⟨g, o + 2, none⟩ = some (.int .i64 m.po)
  c3 : w.cell? ⟨g, o + 3, none⟩ = some (.int .i64 m.he)
theorem M4.keep {w w' : World} {g o : Nat} {m : Mk} (k : M4 w g o m) (hg : w.grownBy w' none) : M4 w' g o m :=
  ⟨hg.cell k.c0 (by simp), hg.cell k.c1 (by simp), hg.cell k.c2 (by simp), hg.cell k.c3 (by simp)⟩
theorem BkJ.mark {w : World} {b : Nat} {es : List Ent} {junk : List Value} {p : Pl} (h : BkJ w b es junk p) {t : Nat} {m : Mk} (ht : p.mks[t]? = some m) : M4 w b (588 + t * 4) m := by
  have hl : t < p.mks.length := (List.getElem?_eq_some_iff.1 ht).1
  have at_ : ∀ k u, k < 4 → (mvs m)[k]? = some u → w.cell? ⟨b, 588 + t * 4 + k, none⟩ = some u := fun k u hk hu => by
    have := h.tail (12 + (t * 4 + k))
    rw [show 576 + (12 + (t * 4 + k)) = 588 + t * 4 + k by omega] at this
    rw [this]
    unfold plc
    rw [show 12 + (t * 4 + k) = 9 + (t * 4 + k) + 1 + 1 + 1 by omega, List.getElem?_cons_succ, List.getElem?_cons_succ, List.getElem?_cons_succ, List.getElem?_append_right (by simp [h.nine]), List.length_map, h.nine]
    rw [show 9 + (t * 4 + k) - 9 = t * 4 + k by omega, mcells_at _ _ _ ht k hk]
    exact hu
  exact ⟨at_ 0 _ (by omega) rfl, at_ 1 _ (by omega) rfl, at_ 2 _ (by omega) rfl, at_ 3 _ (by omega) rfl⟩
theorem BkJ.free {w : World} {b : Nat} {es : List Ent} {junk : List Value} {p : Pl} (h : BkJ w b es junk p) (i : Nat) : w.frozen? ⟨b, i, none⟩ = false := block_free h.lies i
theorem BkJ.keepR {w w' : World} {b : Nat} {es : List Ent} {junk : List Value} {p : Pl} {r : Option Nat} (h : BkJ w b es junk p) (g : w.grownBy w' r) (hr : some b ≠ r) : BkJ w' b es junk p := ⟨grown_keep g h.lies hr, h.fit, h.nine, h.five⟩
theorem BkJ.keep {w w' : World} {b : Nat} {es : List Ent} {junk : List Value} {p : Pl} (h : BkJ w b es junk p) (g : w.grownBy w' none) : BkJ w' b es junk p := h.keepR g (by simp)
theorem BkIn.keepR {w w' : World} {b : Nat} {es : List Ent} {p : Pl} {r : Option Nat} (h : BkIn w b es p) (g : w.grownBy w' r) (hr : some b ≠ r) : BkIn w' b es p := h.imp fun _ k => k.keepR g hr
theorem BkIn.keep {w w' : World} {b : Nat} {es : List Ent} {p : Pl} (h : BkIn w b es p) (g : w.grownBy w' none) : BkIn w' b es p := h.keepR g (by simp)
theorem BkIn.len {w : World} {b : Nat} {es : List Ent} {p : Pl} (h : BkIn w b es p) : es.length ≤ 64 := by obtain ⟨j, h⟩ := h; have := h.fit; omega
theorem BkIn.row {w : World} {b : Nat} {es : List Ent} {p : Pl} (h : BkIn w b es p) : EsAt w b 0 es := by obtain ⟨j, h⟩ := h; exact h.row
theorem BkIn.flags {w : World} {b : Nat} {es : List Ent} {p : Pl} (h : BkIn w b es p) : Flags w b es.length p := by obtain ⟨j, h⟩ := h; exact h.flags

def PsOk (ok : Nat → Prop) (w : World) (v : Value) (ps : List Pt) : Prop := PsAt w v ps ∧ ∀ g o n c, v = .slice (some ⟨g, o, none⟩) n c → 0 < n → ok g
theorem PsOk.keep {ok : Nat → Prop} {w w' : World} {v : Value} {ps : List Pt} (h : PsOk ok w v ps) (g : w.grownBy w' none) : PsOk ok w' v ps := ⟨h.1.keep g, h.2⟩
theorem PsOk.mono {ok ok' : Nat → Prop} {w : World} {v : Value} {ps : List Pt} (h : PsOk ok w v ps) (k : ∀ i, ok i → ok' i) : PsOk ok' w v ps := ⟨h.1, fun g o n c e hn => k g (h.2 g o n c e hn)⟩
theorem PsOk.keepR {ok : Nat → Prop} {w w' : World} {v : Value} {ps : List Pt} {r : Option Nat} (h : PsOk ok w v ps) (g : w.grownBy w' r) (hr : ∀ k, ok k → some k ≠ r) : PsOk ok w' v ps := by
  refine ⟨?_, h.2⟩
  by_cases h0 : 0 < ps.length
  · obtain ⟨b, o, cap, ev, _⟩ := h.1.part h0
    have hb := h.2 b o _ _ ev h0
    rcases h.1 with ⟨_, hn⟩ | ⟨ad, cap', e, hc, k⟩
    · rw [hn] at h0; simp at h0
    · rw [ev] at e
      injection e with e1 _ _
      injection e1 with e1
      subst e1
      refine Or.inr ⟨_, cap', by rw [ev]; congr, hc, fun j u hu => g.cell (k j u hu) (by rw [add_plain]; exact hr b hb)⟩
  · obtain rfl : ps = [] := List.eq_nil_of_length_eq_zero (by omega)
    obtain ⟨a, cap, rfl⟩ := h.1.form
    exact PsAt.nil h.1 w'
def Good (ok : Nat → Prop) (w : World) (es : List Ent) : Prop := ∀ e ∈ es, PsOk ok w e.v e.ps
theorem Good.keep {ok : Nat → Prop} {w w' : World} {es : List Ent} (h : Good ok w es) (g : w.grownBy w' none) : Good ok w' es := fun e he => (h e he).keep g
theorem Good.keepR {ok : Nat → Prop} {w w' : World} {es : List Ent} {r : Option Nat} (h : Good ok w es) (g : w.grownBy w' r) (hr : ∀ k, ok k → some k ≠ r) : Good ok w' es := fun e he => (h e he).keepR g hr
theorem Good.mono {ok ok' : Nat → Prop} {w : World} {es : List Ent} (h : Good ok w es) (k : ∀ i, ok i → ok' i) : Good ok' w es := fun e he => (h e he).mono k
end Go.Proofs.YtmemeloehgemcaaGreat
namespace Go.Proofs.YtmemeloehgemcaaGreat
open Go.RowKit

def plNew : Pl := ⟨false, List.replicate 9 ⟨#[]⟩, List.replicate 5 Mk.none⟩
def noCard : List Value := cvs Hd.none (.slice none 0 0)
def noCards : Nat → List Value
  | 0 => []
  | n + 1 => noCard ++ noCards n
def plA : Array Value := (plc 0 plNew).toArray
def bkA : Array Value := (bcells [] (noCards 64) plNew).toArray
theorem run_buildPl (w : World) : (Instr.build 95 #[(0, .bool true)]).run Tryz.prog w = .ok (.agg plA) w := by kernel_rfl
theorem run_buildBk (w : World) : (Instr.build 97 #[(1, .agg plA)]).run Tryz.prog w = .ok (.agg bkA) w := by kernel_rfl
theorem run_boxBk (cs : Array Value) (w : World) : (Instr.box 97 (.agg cs)).run Tryz.prog w = .ok (.pointer (some ⟨w.heap.size, 0, none⟩)) (w.alloc (.cells cs 97)) := rfl
set_option maxRecDepth 100000 in
theorem new_any (w : World) : Calls Tryz.prog 22 #[] w fun e w' => e = .returned (.pointer (some ⟨w.heap.size, 0, none⟩)) ∧ BkIn w' w.heap.size [] plNew ∧ w.grownBy w' none ∧ w'.heap.size = w.heap.size + 1 := by
  go_enter Tryz.func22, Tryz.ntmps22
  go_wp2_with (first | (refine wpl_build ?g 95 #[(0, .const (.bool true))] ?ho #[(0, .bool true)] ?hv (.agg plA) (run_buildPl _) ?_; (case g => rfl); (case ho => rfl); (case hv => simp [Act.eval])) | (refine wpl_build ?g 97 #[(1, .tmp 1)] ?ho #[(1, .agg plA)] ?hv (.agg bkA) (run_buildBk _) ?_; (case g => rfl); (case ho => rfl); (case hv => simp [Act.eval])) | (refine wpl_box ?g 97 (.tmp 2) ?ho (.agg bkA) ?hv _ (run_boxBk bkA _) ?_; (case g => rfl); (case ho => rfl); (case hv => simp [Act.eval])) | fail)
  go_ret
  refine ⟨rfl, ⟨noCards 64, ?_, rfl, rfl, rfl⟩, World.grownBy_alloc w _ none, by simp⟩
  exact alloc_at w bkA 97

def NoBk (w : World) (v : Value) : Prop := v = .pointer none ∨ ∃ b, v = .pointer (some ⟨b, 0, none⟩) ∧ w.cell? ⟨b, 576, none⟩ = some (.bool false)
theorem NoBk.keep {w w' : World} {v : Value} (h : NoBk w v) (g : w.grownBy w' none) : NoBk w' v := by
  rcases h with h | ⟨b, e, h⟩
  · exact Or.inl h
  · exact Or.inr ⟨b, e, g.cell h (by simp)⟩
theorem isBook_yes (b : Nat) (n : Nat) (p : Pl) (w : World) (F : Flags w b n p) : Calls Tryz.prog 60 #[.pointer (some ⟨b, 0, none⟩)] w fun e w' => e = .returned (.bool true) ∧ w' = w := by
  have c := F.made
  go_enter Tryz.func60, Tryz.ntmps60
  go_wp2
  go_ret
  exact ⟨rfl, rfl⟩
theorem isBook_no (v : Value) (w : World) (h : NoBk w v) : Calls Tryz.prog 60 #[v] w fun e w' => e = .returned (.bool false) ∧ w' = w := by
  rcases h with rfl | ⟨b, rfl, c⟩
  · go_enter Tryz.func60, Tryz.ntmps60
    go_wp2
    go_ret
    exact ⟨rfl, rfl⟩
  · go_enter Tryz.func60, Tryz.ntmps60
    go_wp2
    go_ret
    exact ⟨rfl, rfl⟩
theorem refusal_yes (b : Nat) (n : Nat) (p : Pl) (w : World) (F : Flags w b n p) : Calls Tryz.prog 79 #[.pointer (some ⟨b, 0, none⟩)] w fun e w' => e = .returned (.int .i64 (if p.shut then 7 else 0)) ∧ w' = w := by
  have c := F.shut
  have HF : Hid (Flags w b n p) := F
  cases hs : p.shut
  all_goals
    rw [hs] at c
    go_enter Tryz.func79, Tryz.ntmps79
    go_wp2_with (first | (go_at_call 60; refine (isBook_yes b n p _ HF.out).mono ?_; rintro e w1 ⟨rfl, h1⟩; obtain rfl : w = w1 := h1.symm) | fail)
    go_ret
    exact ⟨rfl, rfl⟩
theorem list_yes (b : Nat) (n : Nat) (hn : n ≤ 64) (p : Pl) (w : World) (F : Flags w b n p) : Calls Tryz.prog 95 #[.pointer (some ⟨b, 0, none⟩)] w fun e w' => e = .returned (.slice (some ⟨b, 0, none⟩) n 64) ∧ w.grownBy w' none ∧ w'.heap.size = w.heap.size := by
  have c := F.count
  have HF : Hid (Flags w b n p) := F
  have h0 : (0 : Int) ≤ (n : Int) := by omega
  have h1 : (n : Int) ≤ 64 := by omega
  go_enter Tryz.func95, Tryz.ntmps95
  go_wp2_with (first | (go_at_call 60; refine (isBook_yes b n p _ HF.out).mono ?_; rintro e w1 ⟨rfl, h1⟩; obtain rfl : w = w1 := h1.symm) | fail)
  go_quiet (fail)
  go_wp2
  go_ret
  exact ⟨rfl, grown_drewN _ _ _, rfl⟩
theorem sealed_yes (b : Nat) (n : Nat) (p : Pl) (w : World) (F : Flags w b n p) : Calls Tryz.prog 48 #[.pointer (some ⟨b, 0, none⟩)] w fun e w' => e = .returned (.bool p.shut) ∧ w' = w := by
  have c := F.shut
  have HF : Hid (Flags w b n p) := F
  go_enter Tryz.func48, Tryz.ntmps48
  go_wp2_with (first | (go_at_call 60; refine (isBook_yes b n p _ HF.out).mono ?_; rintro e w1 ⟨rfl, h1⟩; obtain rfl : w = w1 := h1.symm) | fail)
  go_ret
  exact ⟨rfl, rfl⟩
theorem len_yes (b : Nat) (n : Nat) (hn : n ≤ 64) (p : Pl) (w : World) (F : Flags w b n p) : Calls Tryz.prog 166 #[.pointer (some ⟨b, 0, none⟩)] w fun e w' => e = .returned (.int .i64 n) ∧ w.grownBy w' none ∧ w'.heap.size = w.heap.size := by
  go_enter Tryz.func166, Tryz.ntmps166
  go_wp2_with (first | (go_at_call 95; refine (list_yes b n hn p _ F).mono ?_; rintro e w1 ⟨rfl, g1, s1⟩) | fail)
  go_ret
  exact ⟨rfl, g1, s1⟩
end Go.Proofs.YtmemeloehgemcaaGreat
