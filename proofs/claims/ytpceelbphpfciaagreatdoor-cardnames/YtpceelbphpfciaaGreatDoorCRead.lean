/-
  card.read: a text taken for a card's.
-/
import Derived.Test.YtpceelbphpfciaaGreatDoorRHead
import Derived.Test.YtpceelbphpfciaaGreatDoorParse
namespace Go.Proofs.YtpceelbphpfciaaGreatDoor
open Go.RowKit

theorem cut_less {l : List UInt8} (h : (Lib.cut l barS).2.2 = true) : (Lib.cut l barS).2.1.length < l.length := by
  have hne : l ≠ [] := by
    intro e
    subst e
    revert h
    decide
  have h0 : 0 < l.length := List.length_pos_iff.2 hne
  unfold Lib.cut at h ⊢
  split at h
  · rename_i hi
    rw [if_pos hi]
    simp only [List.length_drop]
    have : 0 < (barS).length := by decide
    omega
  · cases h
theorem cutsF_more : ∀ (n : Nat) (l : List UInt8), l.length ≤ n → cutsF n l = cutsF l.length l
  | 0, l, h => by
    have : l.length = 0 := by omega
    rw [this]
  | n + 1, l, h => by
    by_cases hc : (Lib.cut l barS).2.2 = true
    · have hl := cut_less hc
      obtain ⟨m, hm⟩ : ∃ m, l.length = m + 1 := ⟨l.length - 1, by omega⟩
      rw [hm]
      simp only [cutsF, if_pos hc]
      rw [cutsF_more n _ (by omega), cutsF_more m _ (by omega)]
    · cases hm : l.length with
      | zero => simp only [cutsF, if_neg hc]
      | succ m => simp only [cutsF, if_neg hc]
/-- What is left to read behind a cut. -/
def todo (more : Bool) (rest : List UInt8) : List (List UInt8) := if more then cuts rest else []
theorem cuts_step (l : List UInt8) : cuts l = (Lib.cut l barS).1 :: todo (Lib.cut l barS).2.2 (Lib.cut l barS).2.1 := by
  by_cases hc : (Lib.cut l barS).2.2 = true
  · have hl := cut_less hc
    obtain ⟨m, hm⟩ : ∃ m, l.length = m + 1 := ⟨l.length - 1, by omega⟩
    unfold cuts todo
    rw [hm]
    simp only [cutsF, if_pos hc]
    rw [cutsF_more m _ (by omega)]
    rfl
  · have e : (Lib.cut l barS).1 = l := by
      unfold Lib.cut at hc ⊢
      split
      · rename_i hi
        rw [if_pos hi] at hc
        exact absurd rfl hc
      · rfl
    unfold cuts todo
    rw [if_neg hc, e]
    cases hm : l.length with
    | zero => rfl
    | succ m => simp only [cutsF, if_neg hc]
def textLen : Value → Nat
  | .string s => s.size
  | _ => 0
def isYes : Value → Bool
  | .bool b => b
  | _ => false
def left (more rest : Value) : Nat := if isYes more then textLen rest + 1 else 0
theorem CAt.parts {w : World} {q : Nat} {h : Hd} {v : Value} (k : CAt w q h v) (x : Value) : CAt (w.setCell ⟨q, 8, none⟩ x) q h x := block_set k 8 _
theorem p_new_cells (w : World) (p : Pt) : ∀ j u, (pcells [p])[j]? = some u → (w.alloc (.cells #[.int .u8 p.wn, .int .u8 p.vb, .int .u8 p.wm, .int .i64 p.ct, .int .u8 p.su, .int .u8 p.tr, .int .u8 p.mr, .string p.nm] 29)).cell? ((⟨w.heap.size, 0, none⟩ : Addr).add j) = some u := fun j u hu => by
  rw [add_plain, Nat.zero_add, block_cell (alloc_at w _ _)]
  simpa [pcells, pvs] using hu
/-- What read hands back. -/
def rdC (base : Nat) (o : Option Cd) (e : Ending) (w : World) : Prop := match o with
  | some c => ∃ u, e = .returned (.tuple #[cv c.hd u, .bool true]) ∧ POwn w base u c.ps ∧ c.ps.length ≤ 513
  | none => ∃ h a n k, e = .returned (.tuple #[cv h (.slice a n k), .bool false])
/-- What the loop has to tell at the end: the parts, or none. -/
def Aim (hd : Option Cd) (fin : Option (List Pt)) : Option Cd := match hd with
  | none => none
  | some c => match fin with
    | none => none
    | some ps => some { c with ps := ps }
theorem cread_is (s : List UInt8) : cread s = Aim (readH (pieces (Lib.cut s barS).1)) (readPs (todo (Lib.cut s barS).2.2 (Lib.cut s barS).2.1) []) := by
  unfold cread Aim
  rw [cuts_step]
  rfl
/-- The state of the loop: whether all went well, what is left, the parts so far. -/
def Rd (aim : Option Cd) (h : Hd) (ok more : Bool) (rest : List UInt8) (ps : List Pt) : Prop := (ok = true ∧ aim = Aim (some (h.with [])) (readPs (todo more rest) ps)) ∨ (ok = false ∧ aim = none)
theorem rd_step {aim : Option Cd} {h : Hd} {rest : List UInt8} {ps : List Pt} (R : Rd aim h true true rest ps) : Rd aim h ((parse (Lib.cut rest barS).1).2 == 0) (Lib.cut rest barS).2.2 (Lib.cut rest barS).2.1 (ps ++ [(parse (Lib.cut rest barS).1).1]) := by
  rcases R with ⟨_, e⟩ | ⟨e, _⟩
  · have e1 : todo true rest = (Lib.cut rest barS).1 :: todo (Lib.cut rest barS).2.2 (Lib.cut rest barS).2.1 := cuts_step rest
    rw [e1] at e
    simp only [readPs] at e
    by_cases hp : (parse (Lib.cut rest barS).1).2 = 0
    · rw [if_pos hp] at e
      exact Or.inl ⟨by simpa using hp, e⟩
    · rw [if_neg hp] at e
      exact Or.inr ⟨by simpa using hp, e⟩
  · cases e
theorem rd_done {aim : Option Cd} {h : Hd} {ok more : Bool} {rest : List UInt8} {ps : List Pt} (R : Rd aim h ok more rest ps) (hd : (ok && more) = false) {base : Nat} {u : Value} {w : World} (O : POwn w base u ps) (hl : ps.length ≤ 513) : rdC base aim (.returned (.tuple #[cv h u, .bool ok])) w := by
  rcases R with ⟨rfl, e⟩ | ⟨rfl, rfl⟩
  · obtain rfl : more = false := by simpa using hd
    subst e
    exact ⟨u, rfl, O, hl⟩
  · obtain ⟨a, k, rfl⟩ := O.at.form
    exact ⟨h, a, _, k, rfl⟩
theorem rdC_keep {b b' : Nat} {aim : Option Cd} {e : Ending} {w w' : World} {r : Option Nat} (h : rdC b aim e w) (g : w.grownBy w' r) (hr : ∀ x, r = some x → x < b) (hb : b' ≤ b) : rdC b' aim e w' := by
  cases aim with
  | none => exact h
  | some c =>
    obtain ⟨u, he, O, hl⟩ := h
    exact ⟨u, he, (O.keep g hr).big hb, hl⟩
set_option maxHeartbeats 4000000 in
set_option maxRecDepth 100000 in
theorem cread_any (s : ByteArray) (hs : s.size ≤ 512) (w : World) (L : LaidAt w) : Calls Tryz.prog 58 #[.string s] w fun e w' => rdC w.heap.size (cread s.data.toList) e w' ∧ w.grownBy w' none := by
  obtain ⟨i0, hi, hz0, hz1, hz2⟩ := info_of Tryz.info29
  have HL : Hid (LaidAt w) := L
  have HS : Hid (s.size ≤ 512) := hs
  have HI : Hid (cread s.data.toList = Aim (readH (pieces (Lib.cut s.data.toList barS).1)) (readPs (todo (Lib.cut s.data.toList barS).2.2 (Lib.cut s.data.toList barS).2.1) [])) := cread_is _
  obtain ⟨aim, ha⟩ : ∃ aim, aim = cread s.data.toList := ⟨_, rfl⟩
  rw [← ha]
  rw [← ha] at HI
  have hz := Lib.size_eq s
  have hcl := cut_len s.data.toList barS
  obtain ⟨t, ht⟩ : ∃ t, t = (Lib.cut s.data.toList barS).1 := ⟨_, rfl⟩
  obtain ⟨rest, hrest⟩ : ∃ rest, rest = (Lib.cut s.data.toList barS).2.1 := ⟨_, rfl⟩
  obtain ⟨more, hmore⟩ : ∃ more, more = (Lib.cut s.data.toList barS).2.2 := ⟨_, rfl⟩
  have c1 : ∀ W, LaidAt W → Calls Tryz.prog 96 #[.string s, .string ⟨#[32, 124, 32]⟩] W fun e w' => e = .returned (.tuple #[.string ⟨t.toArray⟩, .string ⟨rest.toArray⟩, .bool more]) ∧ W.grownBy w' none := fun W LW => by
    rw [ht, hrest, hmore]
    exact cut_any s ⟨#[32, 124, 32]⟩ (by omega) W LW
  have hlt : more = true → rest.length < s.data.toList.length := by rw [hmore, hrest]; exact cut_less
  rw [← ht, ← hrest, ← hmore] at HI
  rw [← ht, ← hrest] at hcl
  have HT : Hid (t.length ≤ 512) := by unfold Hid; omega
  have HB : Hid (more = true → rest.length + 1 ≤ 513) := fun h => by have := hlt h; omega
  have HRL : Hid (rest.length ≤ 512) := by unfold Hid; omega
  clear ha ht hrest hmore hlt hcl hz L hs
  have HC1 : Hid (∀ W, LaidAt W → Calls Tryz.prog 96 #[.string s, .string ⟨#[32, 124, 32]⟩] W fun e w' => e = .returned (.tuple #[.string ⟨t.toArray⟩, .string ⟨rest.toArray⟩, .bool more]) ∧ W.grownBy w' none) := c1
  clear c1
  obtain ⟨tb, htb⟩ : ∃ tb : ByteArray, tb = ⟨t.toArray⟩ := ⟨_, rfl⟩
  have HTB : Hid (tb.data.toList = t) := by unfold Hid; rw [htb]
  have HTS : Hid (tb.size ≤ 512) := by unfold Hid; rw [Lib.size_eq, HTB.out]; exact HT.out
  have Z0 : CAt (w.alloc (.cells (ccs Hd.none (.slice none 0 0)) 40)) w.heap.size Hd.none (.slice none 0 0) := alloc_at w _ _
  have HZ0 : Hid (CAt (w.alloc (.cells (ccs Hd.none (.slice none 0 0)) 40)) w.heap.size Hd.none (.slice none 0 0)) := Z0
  clear Z0
  go_enter Tryz.func58, Tryz.ntmps58
  go_wp2_with fail
  refine Calls.mono (HC1.out _ (HL.out.keep (World.grownBy_alloc _ _ none))) ?_
  rintro e w1 ⟨rfl, g1⟩
  have HZ1 : Hid (CAt w1 w.heap.size Hd.none (.slice none 0 0)) := HZ0.out.keep g1
  have HG1 : Hid (w.grownBy w1 none) := grown_trans (World.grownBy_alloc _ _ none) g1
  rw [← htb]
  clear g1 HZ0 HC1 htb
  go_wp2_with fail
  refine (split_w tb (by have := HTS.out; omega) _).mono ?_
  rintro e w2 ⟨rfl, X2, l2, g2⟩
  have HX2 : Hid (W0At w2 w1.heap.size (wordsB tb)) := X2
  have HG2 : Hid (w.grownBy w2 none) := grown_trans HG1.out g2
  have HZ2 : Hid (CAt w2 w.heap.size Hd.none (.slice none 0 0)) := HZ1.out.keep g2
  clear X2 g2 HG1 HZ1
  go_wp2_with fail
  refine (rhead_any w1.heap.size (wordsB tb) (by
    have := pieces_len tb.data.toList
    have h2 := HTS.out
    have h3 := Lib.size_eq tb
    unfold wordsB
    rw [List.length_map]
    omega) (by
    intro x hx
    obtain ⟨l, hm, rfl⟩ := List.mem_map.1 hx
    have := piece_len _ l hm
    have h2 := HTS.out
    have h3 := Lib.size_eq tb
    show l.toArray.size ≤ 600
    simp
    omega) w2 (HL.out.keep HG2.out) l2 HX2.out).mono ?_
  rintro e w3 ⟨he, g3⟩
  rw [words_map, HTB.out] at he
  obtain ⟨h, ok, rfl, HR0⟩ : ∃ h ok, e = .returned (.tuple #[cv h (.slice none 0 0), .bool ok]) ∧ Rd aim h ok more rest [] := by
    have hi := HI.out
    cases hr : readH (pieces t) with
    | none =>
      rw [hr] at he hi
      obtain ⟨h, rfl⟩ := he
      exact ⟨h, false, rfl, Or.inr ⟨rfl, hi⟩⟩
    | some d =>
      rw [hr] at he hi
      obtain ⟨rfl, hp⟩ := he
      exact ⟨d.hd, true, rfl, Or.inl ⟨rfl, by rw [hi, hd_nil hp]⟩⟩
  have HZ3 : Hid (CAt w3 w.heap.size Hd.none (.slice none 0 0)) := HZ2.out.keep g3
  have HG3 : Hid (w.grownBy w3 none) := grown_trans HG2.out g3
  have HR : Hid (Rd aim h ok more rest []) := HR0
  clear he HI HR0 g3 HG2 HZ2 HX2 l2
  simp only [cv]
  have C4 : CAt (w3.alloc (.cells (ccs h (.slice none 0 0)) 40)) w3.heap.size h (.slice none 0 0) := alloc_at w3 _ _
  have Z4 : CAt (w3.alloc (.cells (ccs h (.slice none 0 0)) 40)) w.heap.size Hd.none (.slice none 0 0) := HZ3.out.keep (World.grownBy_alloc _ _ none)
  have G4 : w.grownBy (w3.alloc (.cells (ccs h (.slice none 0 0)) 40)) none := grown_push HG3.out _
  have hqs : w.heap.size < w3.heap.size := block_lt HZ3.out
  have HC4 : Hid (CAt (w3.alloc (.cells (ccs h (.slice none 0 0)) 40)) w3.heap.size h (.slice none 0 0)) := C4
  have HZ4 : Hid (CAt (w3.alloc (.cells (ccs h (.slice none 0 0)) 40)) w.heap.size Hd.none (.slice none 0 0)) := Z4
  have HG4 : Hid (w.grownBy (w3.alloc (.cells (ccs h (.slice none 0 0)) 40)) none) := G4
  clear C4 Z4 G4 HZ3 HG3
  obtain ⟨q, hq⟩ : ∃ q, q = w3.heap.size := ⟨_, rfl⟩
  go_wp2_with fail
  obtain ⟨W4, hW4⟩ : ∃ W4, W4 = w3.alloc (.cells (ccs h (.slice none 0 0)) 40) := ⟨_, rfl⟩
  rw [← hW4] at HC4 HZ4 HG4
  unfold ccs at hW4
  rw [← hW4]
  rw [← hq] at HC4 hqs ⊢
  clear hW4 hq
  go_loopw [5, 6, 8] (fun v5 v6 v8 wr => ∃ (rest : List UInt8) (more ok : Bool) (ps : List Pt) (u : Value), v5 = .string ⟨rest.toArray⟩ ∧ v6 = .bool more ∧ v8 = .bool ok ∧ rest.length ≤ 512 ∧ ps.length + (if more then rest.length + 1 else 0) ≤ 513 ∧ Rd aim h ok more rest ps ∧ CAt wr q h u ∧ POwn wr (q + 1) u ps ∧ CAt wr w.heap.size Hd.none (.slice none 0 0) ∧ w.grownBy wr none) (fun v5 v6 _ _ => left v6 v5)
  case atStart => exact ⟨rest, more, ok, [], .slice none 0 0, rfl, rfl, rfl, HRL.out, by
    have := HB.out
    cases more
    · simp
    · simpa using this rfl, HR.out, HC4.out, POwn.nil _ _, HZ4.out, HG4.out⟩
  case round =>
    clear HR HB HRL HC4 HZ4 HG4
    obtain ⟨rest, more, ok, ps, u, rfl, rfl, rfl, hrl, hpl, R, C, O, Z, G⟩ := hrel
    have HR : Hid (Rd aim h ok more rest ps) := R
    have HC : Hid (CAt wr q h u) := C
    have HO : Hid (POwn wr (q + 1) u ps) := O
    have HZ : Hid (CAt wr w.heap.size Hd.none (.slice none 0 0)) := Z
    have HG : Hid (w.grownBy wr none) := G
    have HP : Hid (ps.length + (if more then rest.length + 1 else 0) ≤ 513) := hpl
    have HRL : Hid (rest.length ≤ 512) := hrl
    obtain ⟨ua, uc, rfl⟩ := O.at.form
    clear R C O Z G hpl hrl
    cases hom : (ok && more) with
    | false =>
      have HD : Hid (rdC (q + 1) aim (.returned (.tuple #[cv h (.slice ua ps.length uc), .bool ok])) wr) := rd_done HR.out hom HO.out (by have := HP.out; omega)
      obtain ⟨c0, c1, c2, c3, c4, c5, c6, c7, c8⟩ := HC.out.cells
      obtain ⟨z0, z1, z2, z3, z4, z5, z6, z7, z8⟩ := HZ.out.cells
      have zf := fun i => HZ.out.free i
      simp only [Hd.none] at z0 z1 z2 z3 z4 z5 z6 z7 z8
      have HF : Hid (rdC w.heap.size aim (.returned (.tuple #[cv h (.slice ua ps.length uc), .bool ok])) (((((((((wr.setCell ⟨w.heap.size, 0, none⟩ (.string h.nm)).setCell ⟨w.heap.size, 1, none⟩ (.int .u8 h.su)).setCell ⟨w.heap.size, 2, none⟩ (.int .u8 h.kd)).setCell ⟨w.heap.size, 3, none⟩ (.int .i64 h.co)).setCell ⟨w.heap.size, 4, none⟩ (.int .i64 h.po)).setCell ⟨w.heap.size, 5, none⟩ (.int .i64 h.he)).setCell ⟨w.heap.size, 6, none⟩ (.int .u16 h.tr)).setCell ⟨w.heap.size, 7, none⟩ (.bool h.tk)).setCell ⟨w.heap.size, 8, none⟩ (.slice ua ps.length uc))) := rdC_keep HD.out (row_st9 _ w.heap.size _ _ _ _ _ _ _ _ _) (fun x e => by cases e; omega) (by omega)
      clear HD HC HO HZ HR
      cases ok with
      | false =>
        go_wp2
        refine bodyPost_ret (v := .tuple #[cv h (.slice ua ps.length uc), .bool false]) (by simp [results, Tryz.results58, go_sem, z0, z1, z2, z3, z4, z5, z6, z7, z8, cv]) rfl ⟨HF.out, ?_⟩
        exact grown_own HG.out (row_st9 _ w.heap.size _ _ _ _ _ _ _ _ _) (fun x e => by cases e; exact Nat.le_refl _)
      | true =>
        obtain rfl : more = false := by simpa using hom
        go_wp2
        refine bodyPost_ret (v := .tuple #[cv h (.slice ua ps.length uc), .bool true]) (by simp [results, Tryz.results58, go_sem, z0, z1, z2, z3, z4, z5, z6, z7, z8, cv]) rfl ⟨HF.out, ?_⟩
        exact grown_own HG.out (row_st9 _ w.heap.size _ _ _ _ _ _ _ _ _) (fun x e => by cases e; exact Nat.le_refl _)
    | true =>
      obtain ⟨rfl, rfl⟩ : ok = true ∧ more = true := by simpa using hom
      clear hom
      have HRS := rd_step HR.out
      have hcl := cut_len rest barS
      have hless : (Lib.cut rest barS).2.2 = true → (Lib.cut rest barS).2.1.length < rest.length := cut_less
      have cc := fun W LW => cut_any ⟨rest.toArray⟩ ⟨#[32, 124, 32]⟩ (by have := HRL.out; rw [Lib.size_eq]; simp; omega) W LW
      simp only at cc
      change ∀ W, LaidAt W → Calls Tryz.prog 96 #[.string ⟨rest.toArray⟩, .string ⟨#[32, 124, 32]⟩] W fun e w' => e = .returned (.tuple #[.string ⟨(Lib.cut rest barS).1.toArray⟩, .string ⟨(Lib.cut rest barS).2.1.toArray⟩, .bool (Lib.cut rest barS).2.2]) ∧ W.grownBy w' none at cc
      generalize (Lib.cut rest barS).1 = t2 at HRS hcl cc
      generalize (Lib.cut rest barS).2.1 = rest2 at HRS hcl cc hless
      generalize (Lib.cut rest barS).2.2 = more2 at HRS cc hless
      have HCC : Hid (∀ W, LaidAt W → Calls Tryz.prog 96 #[.string ⟨rest.toArray⟩, .string ⟨#[32, 124, 32]⟩] W fun e w' => e = .returned (.tuple #[.string ⟨t2.toArray⟩, .string ⟨rest2.toArray⟩, .bool more2]) ∧ W.grownBy w' none) := cc
      have HP2 : Hid (ps.length + 1 + (if more2 then rest2.length + 1 else 0) ≤ 513) := by
        have := HP.out
        simp only [if_true] at this
        unfold Hid
        cases more2
        · simp; omega
        · have := hless rfl
          simp
          omega
      have HRL2 : Hid (rest2.length ≤ 512) := by have := HRL.out; unfold Hid; omega
      have HM2 : Hid (left (.bool more2) (.string ⟨rest2.toArray⟩) < left (.bool true) (.string ⟨rest.toArray⟩)) := by
        unfold Hid left isYes textLen
        cases more2
        · simp
        · have := hless rfl
          simp only [if_true, Lib.size_eq]
          omega
      have HPS : Hid (ps.length ≤ 513) := by have := HP.out; unfold Hid; omega
      have HRS2 : Hid (Rd aim h ((parse t2).2 == 0) more2 rest2 (ps ++ [(parse t2).1])) := HRS
      have cp := fun W LW => parse_any ⟨t2.toArray⟩ W LW
      simp only at cp
      generalize parse t2 = pr at HRS2 cp
      obtain ⟨⟨p0, p1, p2, p3, p4, p5, p6, p7⟩, er⟩ := pr
      have HCP : Hid (∀ W, LaidAt W → Calls Tryz.prog 8 #[.string ⟨t2.toArray⟩] W fun e w' => e = .returned (pe (⟨p0, p1, p2, p3, p4, p5, p6, p7⟩, er)) ∧ W.grownBy w' none) := cp
      clear cp cc HRS hcl hless HP HR
      go_wp2_with fail
      refine Calls.mono (HCC.out _ (HL.out.keep HG.out)) ?_
      rintro e w5 ⟨rfl, g5⟩
      go_wp2_with fail
      refine Calls.mono (HCP.out _ (HL.out.keep (grown_trans HG.out g5))) ?_
      rintro e w6 ⟨rfl, g6⟩
      unfold pe pv
      have G6 : Hid (wr.grownBy w6 none) := grown_trans g5 g6
      clear g5 g6 HCC HCP
      obtain ⟨W7, hW7⟩ : ∃ W7, W7 = w6.alloc (.cells #[.int .u8 p0, .int .u8 p1, .int .u8 p2, .int .i64 p3, .int .u8 p4, .int .u8 p5, .int .u8 p6, .string p7] 29) := ⟨_, rfl⟩
      have G7 : Hid (wr.grownBy W7 none) := by unfold Hid; rw [hW7]; exact grown_push G6.out _
      have A7 : PAt W7 w6.heap.size ⟨p0, p1, p2, p3, p4, p5, p6, p7⟩ := by rw [hW7]; exact PAt.new w6 ⟨p0, p1, p2, p3, p4, p5, p6, p7⟩
      have C7 : CAt W7 q h (.slice ua ps.length uc) := HC.out.keep G7.out
      have O7 : POwn W7 (q + 1) (.slice ua ps.length uc) ps := HO.out.keep G7.out (by simp)
      have c8 := C7.cells.2.2.2.2.2.2.2.2
      obtain ⟨d0, d1, d2, d3, d4, d5, d6, d7⟩ := A7.cells
      simp only at d0 d1 d2 d3 d4 d5 d6 d7
      have HC7 : Hid (CAt W7 q h (.slice ua ps.length uc)) := C7
      have HO7 : Hid (POwn W7 (q + 1) (.slice ua ps.length uc) ps) := O7
      have hqW : q < W7.heap.size := block_lt C7
      clear C7 O7 A7 HC HO
      go_upto_region 7 with fail
      rw [← hW7]
      clear hW7
      go_wp2_with (at_builtin; refine wpList_append_own_at _ rfl (.tmp 40) (.tmp 42) 38 rfl (q + 1) 29 i0 _ 8 40 Tryz.underlying38 hi hz0 hz1 hz2 rfl (by decide) _ ps.length (pcells ps) rfl (World.ownsRow.alloc HO7.out _) ⟨W7.heap.size, 0, none⟩ 1 1 (pcells [⟨p0, p1, p2, p3, p4, p5, p6, p7⟩]) rfl rfl (p_new_cells W7 _) (pcells_one _) (by have := HPS.out; unfold maxLen; omega) (by have := HPS.out; omega) (by rw [World.size_alloc]; omega) ?_; intro v8 w8 o8 g8 _ _; obtain ⟨a8, k8, e8v⟩ := (own_app o8).at.form; simp only [List.length_append, List.length_cons, List.length_nil, Nat.zero_add] at e8v; subst e8v; have C8 : CAt w8 q h (.slice ua ps.length uc) := (HC7.out.keep (World.grownBy_alloc _ _ none)).keepR g8 (fun e => by have := HO7.out.block q e.symm; omega); have f8 := C8.free 8; have e8 := C8.cells.2.2.2.2.2.2.2.2; have HC8 : Hid (CAt w8 q h (.slice ua ps.length uc)) := C8; clear C8)
      have HO8 : Hid (POwn w8 (q + 1) (.slice a8 (ps.length + 1) k8) (ps ++ [⟨p0, p1, p2, p3, p4, p5, p6, p7⟩])) := own_app o8
      have HG8 : Hid (w.grownBy w8 none) := grown_own (grown_push (grown_trans HG.out G7.out) _) g8 (fun x e => by have := HO7.out.block x e; omega)
      have HZ8 : Hid (CAt w8 w.heap.size Hd.none (.slice none 0 0)) := ((HZ.out.keep G7.out).keep (World.grownBy_alloc _ _ none)).keepR g8 (fun e => by have := HO7.out.block _ e.symm; omega)
      go_roundw
      case rel => exact ⟨rest2, more2, er == 0, ps ++ [⟨p0, p1, p2, p3, p4, p5, p6, p7⟩], .slice a8 (ps.length + 1) k8, rfl, rfl, rfl, HRL2.out, by simpa using HP2.out, HRS2.out, HC8.out.parts _, HO8.out.keep (grown_set _ _ _ _) (fun x e => by cases e; omega), HZ8.out.keepR (grown_set _ _ _ _) (by simp; omega), grown_own HG8.out (grown_set _ _ _ _) (fun x e => by cases e; omega)⟩
      case measure => exact HM2.out
end Go.Proofs.YtpceelbphpfciaaGreatDoor
