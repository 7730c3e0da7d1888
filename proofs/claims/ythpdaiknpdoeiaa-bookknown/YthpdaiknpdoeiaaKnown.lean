/-
  BookKnown: the document's examples.
-/
import Derived.Test.YthpdaiknpdoeiaaBok
import Derived.Laws.IdiomStrings
namespace Go.Proofs.Ythpdaiknpdoeiaa
open Go.RowKit

def nm2 (k : Nat) : ByteArray := ⟨#[UInt8.ofNat (97 + k / 26), UInt8.ofNat (97 + k % 26)]⟩
def fullH (k : Nat) : Hd := { rockH with nm := nm2 k }
theorem full_chk : ∀ k : Fin 65, cchk ((fullH k).with []) = 0 := by decide +kernel
theorem full_inj : ∀ j k : Fin 65, nm2 j = nm2 k → j = k := by decide +kernel
/-- The book of rocks: k cards, each with one of the first k names. -/
def FullIs (es : List Ent) (k : Nat) : Prop := es.length = k ∧ ∀ e ∈ es, ∃ j, j < k ∧ e.h.nm = nm2 j
theorem mem_pos : ∀ {l : List ByteArray} {s : ByteArray}, s ∉ l → pos l s = -1 := fun {l s} h => pos_miss l s fun _ _ hx e => h (e ▸ List.mem_of_getElem? hx)
theorem full_new {es : List Ent} {k : Nat} (h : FullIs es k) (hk : k < 65) : pos (names es) (nm2 k) = -1 := by
  refine mem_pos fun hm => ?_
  obtain ⟨e, he, h1⟩ := List.mem_map.1 hm
  obtain ⟨j, hj, h2⟩ := h.2 e he
  have := full_inj ⟨j, by omega⟩ ⟨k, hk⟩ (by rw [← h2, ← h1])
  have : j = k := by simpa using this
  omega
theorem full_card {es : List Ent} {k : Nat} (h : FullIs es k) (hk : k < 64) : caE plNew es ((fullH k).with []) = 0 := by
  unfold caE
  rw [if_neg (by decide), if_neg (by have := full_chk ⟨k, by omega⟩; simpa using this)]
  rw [show ((fullH k).with []).nm = nm2 k from rfl, full_new h (by omega), if_neg (by decide), if_neg (by rw [h.1]; omega)]
theorem full_last {es : List Ent} (h : FullIs es 64) : caE plNew es ((fullH 64).with []) = 14 := by
  unfold caE
  rw [if_neg (by decide), if_neg (by have := full_chk ⟨64, by omega⟩; simpa using this)]
  rw [show ((fullH 64).with []).nm = nm2 64 from rfl, full_new h (by omega), if_neg (by decide), if_pos h.1]
theorem full_next {es : List Ent} {k : Nat} (h : FullIs es k) (v : Value) : FullIs (ins es ⟨fullH k, v, []⟩) (k + 1) := by
  refine ⟨by rw [ins_len, h.1], fun e he => ?_⟩
  rcases (ins_mem es _ e).1 he with rfl | he
  · exact ⟨k, by omega, rfl⟩
  · obtain ⟨j, hj, h2⟩ := h.2 e he
    exact ⟨j, by omega, h2⟩
def fastB : ByteArray := ⟨#[102, 97, 115, 116]⟩
def upB : ByteArray := ⟨#[117, 112]⟩
def pT : Pl := { plNew with nms := plNew.nms.set 1 fastB }
theorem kt1 : trE plNew 1 ⟨#[102, 97, 115, 116]⟩ = 0 ∧ trE pT 1 ⟨#[113, 117, 105, 99, 107]⟩ = 5 ∧ trE pT 2 ⟨#[102, 97, 115, 116]⟩ = 5 ∧ trE pT 9 ⟨#[120]⟩ = 2 ∧ trE pT 2 ⟨#[71]⟩ = 4 := by decide +kernel
def mUp : Mk := ⟨1, upB, 1, 1⟩
def mSh : Mk := ⟨3, ⟨#[115, 104, 105, 101, 108, 100]⟩, 0, 0⟩
def pM : Pl := { pT with mks := pT.mks.set 1 mUp }
def pN : Pl := { pM with mks := pM.mks.set 3 mSh }
theorem km1 : maE pT mUp = 0 ∧ maE pM ⟨1, ⟨#[109, 111, 114, 101]⟩, 0, 0⟩ = 5 ∧ maE pM ⟨2, ⟨#[100, 111, 119, 110]⟩, -10, 0⟩ = 2 ∧ maE pM ⟨2, ⟨#[117, 112]⟩, 0, 0⟩ = 5 ∧ maE pM mSh = 0 ∧ maE pN ⟨3, ⟨#[109, 111, 114, 101]⟩, 0, 0⟩ = 5 := by decide +kernel
theorem trP_no {p : Pl} {t : Int} {s : ByteArray} {r : Int} (h : trE p t s = r) (hr : ¬ r = 0) : trP p t s = p := if_neg (by rw [h]; exact hr)
theorem maP_no {p : Pl} {m : Mk} {r : Int} (h : maE p m = r) (hr : ¬ r = 0) : maP p m = p := if_neg (by rw [h]; exact hr)
theorem kt2 : trP plNew 1 ⟨#[102, 97, 115, 116]⟩ = pT := if_pos kt1.1
theorem km2 : maP pT mUp = pM := if_pos km1.1
theorem km3 : maP pM mSh = pN := if_pos km1.2.2.2.2.1
theorem alone6 (u : Value) : sealE plNew [⟨axeH, u, [axeP]⟩] = 6 := by
  have c : callE [⟨axeH, u, [axeP]⟩] axeP = 6 := by
    unfold callE
    rw [if_neg (by decide)]
    show (if pos [axeH.nm] axeP.nm < 0 then (6 : Int) else if kdAt [⟨axeH, u, [axeP]⟩] (pos [axeH.nm] axeP.nm).toNat = 2 then 8 else 0) = 6
    rw [show pos [axeH.nm] axeP.nm = -1 by decide +kernel]
    rfl
  unfold sealE
  rw [if_neg (by decide)]
  simp [sealL, callsE, c]
def fogP : Pt := ⟨3, 7, 1, 1, 0, 0, 0, ⟨#[102, 111, 103]⟩⟩
def fogH : Hd := ⟨⟨#[102, 111, 103]⟩, 1, 2, 0, 0, 0, 0, false⟩
theorem fg1 : caE plNew [] (axeH.with [fogP]) = 0 := by decide +kernel
theorem fg2 (u : Value) : caE plNew [⟨axeH, u, [fogP]⟩] (fogH.with []) = 0 := by
  show (if plNew.shut = true then (7 : Int) else if ¬ cchk (fogH.with []) = 0 then cchk (fogH.with []) else if 0 ≤ pos [axeH.nm] fogH.nm then 5 else if (1 : Nat) = 64 then 14 else 0) = 0
  decide +kernel
theorem fg3 (u v : Value) : ins [⟨axeH, u, [fogP]⟩] ⟨fogH, v, []⟩ = [⟨axeH, u, [fogP]⟩, ⟨fogH, v, []⟩] := by
  rw [ins_cons, if_pos (by show ord axeH fogH < 0; decide +kernel)]
  rfl
theorem fg4 (u v : Value) : sealE plNew [⟨axeH, u, [fogP]⟩, ⟨fogH, v, []⟩] = 8 := by
  have c : callE [⟨axeH, u, [fogP]⟩, ⟨fogH, v, []⟩] fogP = 8 := by
    unfold callE
    rw [if_neg (by decide)]
    show (if pos [axeH.nm, fogH.nm] fogP.nm < 0 then (6 : Int) else if kdAt [⟨axeH, u, [fogP]⟩, ⟨fogH, v, []⟩] (pos [axeH.nm, fogH.nm] fogP.nm).toNat = 2 then 8 else 0) = 8
    rw [show pos [axeH.nm, fogH.nm] fogP.nm = 1 by decide +kernel]
    rfl
  unfold sealE
  rw [if_neg (by decide)]
  simp [sealL, callsE, c]
theorem wrap_small {x : Int} (h0 : 0 ≤ x) (h1 : x ≤ 1000) : wrap64 x = x := by unfold wrap64; omega
theorem u8_small {x : Int} (h0 : 0 ≤ x) (h1 : x ≤ 255) : IntKind.u8.wrap x = x := by rw [IntKind.wrap_u8]; omega
theorem nm_parts {k : Nat} (h : k < 65) : ∃ D R : Int, (k : Int).tdiv 26 = D ∧ (k : Int).tmod 26 = R ∧ (k : Int) / 26 = D ∧ (k : Int) % 26 = R ∧ wrap64 D = D ∧ wrap64 R = R ∧ wrap64 (97 + D) = 97 + D ∧ wrap64 (97 + R) = 97 + R ∧ IntKind.u8.wrap (97 + D) = 97 + D ∧ IntKind.u8.wrap (97 + R) = 97 + R ∧ (97 + D = ((UInt8.ofNat (97 + k / 26)).toNat : Int)) ∧ (97 + R = ((UInt8.ofNat (97 + k % 26)).toNat : Int)) := by
  have h0 : (0 : Int) ≤ (k : Int) := by omega
  refine ⟨(k : Int) / 26, (k : Int) % 26, Int.tdiv_eq_ediv_of_nonneg h0, Int.tmod_eq_emod_of_nonneg h0, rfl, rfl, wrap_small (by omega) (by omega), wrap_small (by omega) (by omega), wrap_small (by omega) (by omega), wrap_small (by omega) (by omega), u8_small (by omega) (by omega), u8_small (by omega) (by omega), ?_, ?_⟩
  · rw [UInt8.toNat_ofNat']; omega
  · rw [UInt8.toNat_ofNat']; omega
theorem nm_conv {k : Nat} {D R : Int} (h1 : 97 + D = ((UInt8.ofNat (97 + k / 26)).toNat : Int)) (h2 : 97 + R = ((UInt8.ofNat (97 + k % 26)).toNat : Int)) (w : World) (b : Nat) (A : w.heap[b]? = some (.cells #[.int .u8 (97 + D), .int .u8 (97 + R)] 5 (0, 0))) : (convert 74 9 (.slice (some ⟨b, 0, none⟩) 2 2)).run Try.prog w = .ok (.string (nm2 k)) w := by
  have e := run_convert_bytes_back (P := Try.prog) w 74 9 5 ⟨b, 0, none⟩ 2 [UInt8.ofNat (97 + k / 26), UInt8.ofNat (97 + k % 26)] Try.underlying74 Try.underlying5 Try.underlying9 (fun j hj => by
    rw [add_plain, Nat.zero_add, block_cell A]
    simp only [List.length_cons, List.length_nil] at hj
    rcases (show j = 0 ∨ j = 1 by omega) with rfl | rfl
    · show some (Value.int .u8 (97 + D)) = _
      rw [h1]
      rfl
    · show some (Value.int .u8 (97 + R)) = _
      rw [h2]
      rfl)
  exact e
theorem ps_block {w : World} {g : Nat} {s : ByteArray} (h : w.heap[g]? = some (.cells #[.int .u8 3, .int .u8 7, .int .u8 1, .int .i64 1, .int .u8 0, .int .u8 0, .int .u8 0, .string s] 70 (0, 0))) : PsAt w (.slice (some ⟨g, 0, none⟩) 1 1) [⟨3, 7, 1, 1, 0, 0, 0, s⟩] := by
  refine Or.inr ⟨⟨g, 0, none⟩, 1, rfl, Nat.le_refl _, fun j u hu => ?_⟩
  rw [add_plain, block_cell h, Nat.zero_add]
  simpa [pcells, pvs] using hu
set_option maxRecDepth 100000 in
theorem axe_any2 (w : World) : Calls Try.prog 20 #[] w fun e w' => ∃ g, e = .returned (cv axeH (.slice (some ⟨g, 0, none⟩) 1 1)) ∧ w'.heap[g]? = some (.cells #[.int .u8 3, .int .u8 7, .int .u8 1, .int .i64 1, .int .u8 0, .int .u8 0, .int .u8 0, .string ⟨#[114, 111, 99, 107]⟩] 70 (0, 0)) ∧ w.heap.size ≤ g ∧ w.grownBy w' none := by
  go_enter Try.func20, Try.ntmps20
  go_wp2
  have A : (World.alloc (World.alloc w (Obj.cells #[.string ⟨#[97, 120, 101]⟩, .int .u8 1, .int .u8 3, .int .i64 2, .int .i64 0, .int .i64 0, .int .u16 0, .bool false, .slice (some ⟨w.heap.size + 1, 0, none⟩) 1 1] 28)) (Obj.cells #[.int .u8 3, .int .u8 7, .int .u8 1, .int .i64 1, .int .u8 0, .int .u8 0, .int .u8 0, .string ⟨#[114, 111, 99, 107]⟩] 70)).heap[w.heap.size + 1]? = some (.cells #[.int .u8 3, .int .u8 7, .int .u8 1, .int .i64 1, .int .u8 0, .int .u8 0, .int .u8 0, .string ⟨#[114, 111, 99, 107]⟩] 70 (0, 0)) := by
    have := alloc_at (World.alloc w (Obj.cells #[.string ⟨#[97, 120, 101]⟩, .int .u8 1, .int .u8 3, .int .i64 2, .int .i64 0, .int .i64 0, .int .u16 0, .bool false, .slice (some ⟨w.heap.size + 1, 0, none⟩) 1 1] 28)) #[.int .u8 3, .int .u8 7, .int .u8 1, .int .i64 1, .int .u8 0, .int .u8 0, .int .u8 0, .string ⟨#[114, 111, 99, 107]⟩] 70
    rw [World.size_alloc] at this
    exact this
  refine bodyPost_ret (v := cv axeH (.slice (some ⟨w.heap.size + 1, 0, none⟩) 1 1)) (by simp [results, Try.results20, go_sem, cv, axeH]) rfl ⟨w.heap.size + 1, rfl, A, by omega, grown_push (World.grownBy_alloc _ _ none) _⟩
theorem meas65 {k : Nat} (h : k < 65) : 65 - (intOf (.int .i64 ((k : Int) + 1))).toNat < 65 - (intOf (.int .i64 (k : Int))).toNat := by simp [intOf]; omega
set_option maxRecDepth 100000 in
set_option maxHeartbeats 8000000 in
theorem known_any (w : World) : Calls Try.prog 6 #[] w fun e w' => e = .returned (.bool true) ∧ w.grownBy w' none := by
  obtain ⟨ok, hok⟩ : ∃ ok : Nat → Prop, ok = fun k => ¬ k = w.heap.size := ⟨_, rfl⟩
  have nb : ¬ ok w.heap.size := by rw [hok]; simp
  have nw : ∀ W : World, w.heap.size < W.heap.size → ∀ k, W.heap.size ≤ k → ok k := fun W h k hk => by rw [hok]; simp; omega
  have sm : Small 1 := by unfold Small; decide
  have sm0 : Small 0 := by unfold Small; decide
  clear hok
  go_enter Try.func6, Try.ntmps6
  go_wp2_with fail
  refine (bnew ok w).mono ?_
  rintro e w1 ⟨rfl, B1, g1, s1⟩
  have HB1 : Hid (Book ok w1 w.heap.size [] plNew) := B1
  have HG1 : Hid (w.grownBy w1 none) := g1
  clear B1 g1
  go_wp2_with fail
  refine (axe_any _).mono ?_
  rintro e w2 ⟨g, rfl, P2, _, g2⟩
  have B2 := HB1.out.keep g2
  go_wp2_with fail
  refine (bcard ok _ [] plNew axeH _ [axeP] _ B2 nb (nw _ (by have := g2.size; omega)) P2 sm).mono ?_
  rintro e w3 ⟨u, rfl, B3, g3⟩
  rw [ex1] at B3 ⊢
  rw [if_pos rfl, exA] at B3
  have HG3 : Hid (w.grownBy w3 none) := grown_own (grown_trans HG1.out g2) g3 (fun x e => by cases e; exact Nat.le_refl _)
  clear g3 B2 g2 P2
  go_wp2_with fail
  refine (bseal ok _ _ plNew _ B3 nb).mono ?_
  rintro e w4 ⟨rfl, B4, g4⟩
  rw [show sealP plNew [⟨axeH, u, [axeP]⟩] = plNew from if_neg (by rw [alone6]; decide)] at B4
  rw [alone6]
  have HG4 : Hid (w.grownBy w4 none) := grown_own HG3.out g4 (fun x e => by cases e; exact Nat.le_refl _)
  clear B3 g4 HG3
  go_wp2_with fail
  refine (sealed_yes _ _ plNew _ B4.lies.flags).mono ?_
  rintro e w5 ⟨rfl, h5⟩
  subst h5
  rw [show plNew.shut = false from rfl]
  go_wp2_with fail
  refine (btrait ok _ _ plNew 1 ⟨#[102, 97, 115, 116]⟩ _ B4 nb).mono ?_
  rintro e w6 ⟨rfl, B6, g6⟩
  rw [kt2] at B6
  rw [kt1.1]
  have HG6 : Hid (w.grownBy w6 none) := grown_own HG4.out g6 (fun x e => by cases e; exact Nat.le_refl _)
  clear B4 g6 HG4
  go_wp2_with fail
  refine (btrait ok _ _ pT 1 ⟨#[113, 117, 105, 99, 107]⟩ _ B6 nb).mono ?_
  rintro e w7 ⟨rfl, B7, g7⟩
  rw [trP_no kt1.2.1 (by decide)] at B7
  rw [kt1.2.1]
  have HG7 : Hid (w.grownBy w7 none) := grown_own HG6.out g7 (fun x e => by cases e; exact Nat.le_refl _)
  clear B6 g7 HG6
  go_wp2_with fail
  refine (btrait ok _ _ pT 2 ⟨#[102, 97, 115, 116]⟩ _ B7 nb).mono ?_
  rintro e w8 ⟨rfl, B8, g8⟩
  rw [trP_no kt1.2.2.1 (by decide)] at B8
  rw [kt1.2.2.1]
  have HG8 : Hid (w.grownBy w8 none) := grown_own HG7.out g8 (fun x e => by cases e; exact Nat.le_refl _)
  clear B7 g8 HG7
  go_wp2_with fail
  refine (btrait ok _ _ pT 9 ⟨#[120]⟩ _ B8 nb).mono ?_
  rintro e w9 ⟨rfl, B9, g9⟩
  rw [trP_no kt1.2.2.2.1 (by decide)] at B9
  rw [kt1.2.2.2.1]
  have HG9 : Hid (w.grownBy w9 none) := grown_own HG8.out g9 (fun x e => by cases e; exact Nat.le_refl _)
  clear B8 g9 HG8
  go_wp2_with fail
  refine (btrait ok _ _ pT 2 ⟨#[71]⟩ _ B9 nb).mono ?_
  rintro e w10 ⟨rfl, B10, g10⟩
  rw [trP_no kt1.2.2.2.2 (by decide)] at B10
  rw [kt1.2.2.2.2]
  have HG10 : Hid (w.grownBy w10 none) := grown_own HG9.out g10 (fun x e => by cases e; exact Nat.le_refl _)
  clear B9 g10 HG9
  go_wp2_with fail
  refine (bmark ok _ _ pT mUp _ B10 nb).mono ?_
  rintro e w11 ⟨rfl, B11, g11⟩
  rw [km2] at B11
  rw [km1.1]
  have HG11 : Hid (w.grownBy w11 none) := grown_own HG10.out g11 (fun x e => by cases e; exact Nat.le_refl _)
  clear B10 g11 HG10
  go_wp2_with fail
  refine (bmark ok _ _ pM ⟨1, ⟨#[109, 111, 114, 101]⟩, 0, 0⟩ _ B11 nb).mono ?_
  rintro e w12 ⟨rfl, B12, g12⟩
  rw [maP_no km1.2.1 (by decide)] at B12
  rw [km1.2.1]
  have HG12 : Hid (w.grownBy w12 none) := grown_own HG11.out g12 (fun x e => by cases e; exact Nat.le_refl _)
  clear B11 g12 HG11
  go_wp2_with fail
  refine (bmark ok _ _ pM ⟨2, ⟨#[100, 111, 119, 110]⟩, -10, 0⟩ _ B12 nb).mono ?_
  rintro e w13 ⟨rfl, B13, g13⟩
  rw [maP_no km1.2.2.1 (by decide)] at B13
  rw [km1.2.2.1]
  have HG13 : Hid (w.grownBy w13 none) := grown_own HG12.out g13 (fun x e => by cases e; exact Nat.le_refl _)
  clear B12 g13 HG12
  go_wp2_with fail
  refine (bmark ok _ _ pM ⟨2, ⟨#[117, 112]⟩, 0, 0⟩ _ B13 nb).mono ?_
  rintro e w14 ⟨rfl, B14, g14⟩
  rw [maP_no km1.2.2.2.1 (by decide)] at B14
  rw [km1.2.2.2.1]
  have HG14 : Hid (w.grownBy w14 none) := grown_own HG13.out g14 (fun x e => by cases e; exact Nat.le_refl _)
  clear B13 g14 HG13
  go_wp2_with fail
  refine (bmark ok _ _ pM mSh _ B14 nb).mono ?_
  rintro e w15 ⟨rfl, B15, g15⟩
  rw [km3] at B15
  rw [km1.2.2.2.2.1]
  have HG15 : Hid (w.grownBy w15 none) := grown_own HG14.out g15 (fun x e => by cases e; exact Nat.le_refl _)
  clear B14 g15 HG14
  go_wp2_with fail
  refine (bmark ok _ _ pN ⟨3, ⟨#[109, 111, 114, 101]⟩, 0, 0⟩ _ B15 nb).mono ?_
  rintro e w16 ⟨rfl, B16, g16⟩
  rw [maP_no km1.2.2.2.2.2 (by decide)] at B16
  rw [km1.2.2.2.2.2]
  have HG16 : Hid (w.grownBy w16 none) := grown_own HG15.out g16 (fun x e => by cases e; exact Nat.le_refl _)
  clear B15 g16 HG15
  clear B16
  go_wp2_with fail
  obtain ⟨F, hF⟩ : ∃ F, F = w16.heap.size := ⟨_, rfl⟩
  obtain ⟨ok2, hok2⟩ : ∃ ok : Nat → Prop, ok = fun k => ¬ k = F := ⟨_, rfl⟩
  have nb2 : ¬ ok2 F := by rw [hok2]; simp
  have nw2 : ∀ W : World, F < W.heap.size → ∀ k, W.heap.size ≤ k → ok2 k := fun W h k hk => by rw [hok2]; simp; omega
  have hwF : w.heap.size ≤ F := by rw [hF]; exact HG16.out.size
  refine (bnew ok2 w16).mono ?_
  rintro e w17 ⟨rfl, B17, g17, s17⟩
  rw [← hF] at B17 ⊢
  have HB17 : Hid (Book ok2 w17 F [] plNew) := B17
  have HG17 : Hid (w.grownBy w17 none) := grown_trans HG16.out g17
  clear B17 g17 s17 HG16 hF hok2 HB1 HG1 s1 nb nw sm
  go_upto_block 0 with fail
  go_cut [6, 7, 8] from 85 to 116 (fun v6 v7 v8 wc => ∃ es, Book ok2 wc F es plNew ∧ FullIs es 64 ∧ w.grownBy wc none)
  case first =>
    go_wp2_with fail
    go_loopw [6] (fun i wr => ∃ k : Nat, k ≤ 65 ∧ i = .int .i64 k ∧ (∃ es, Book ok2 wr F es plNew ∧ FullIs es (min k 64)) ∧ w.grownBy wr none) (fun i _ => 65 - (intOf i).toNat)
    case atStart => exact ⟨0, by decide, rfl, ⟨[], HB17.out, rfl, fun e he => by simp at he⟩, HG17.out⟩
    case round =>
      obtain ⟨k, hk, rfl, ⟨es, B, FI⟩, G⟩ := hrel
      have HB : Hid (Book ok2 wr F es plNew) := B
      have HI : Hid (FullIs es (min k 64)) := FI
      have HG : Hid (w.grownBy wr none) := G
      clear B FI G HB17 HG17
      rcases (show k = 65 ∨ k < 65 from by omega) with hke | hlt
      · subst hke
        have HI64 : Hid (FullIs es 64) := HI.out
        go_wp2_with fail
        go_meet
        case rel => exact ⟨es, HB.out, HI64.out, HG.out⟩
      · have hlt' : (k : Int) < 65 := by omega
        have hk0 : (0 : Int) ≤ (k : Int) := by omega
        have hw : wrap64 ((k : Int) + 1) = (k : Int) + 1 := by unfold wrap64; omega
        go_upto_region 10 with (first | (go_at_call 21; refine (rock_any _).mono ?_; rintro e w18 ⟨rfl, g18⟩; unfold cv rockH) | fail)
        obtain ⟨W19, hW19⟩ : ∃ W19, W19 = w18.alloc (.cells #[.string ⟨#[114, 111, 99, 107]⟩, .int .u8 2, .int .u8 1, .int .i64 1, .int .i64 0, .int .i64 3, .int .u16 0, .bool false, .slice none 0 0] 28) := ⟨_, rfl⟩
        have HG19 : Hid (wr.grownBy W19 none) := by rw [hW19]; exact grown_push g18 _
        have A19 : CAt W19 w18.heap.size rockH (.slice none 0 0) := by rw [hW19]; exact alloc_at w18 _ _
        rw [← hW19]
        clear hW19
        obtain ⟨D, R, D1, R1, D2, R2, D3, R3, D4, R4, D5, R5, D6, R6⟩ := nm_parts hlt
        have HD6 : Hid (97 + D = ((UInt8.ofNat (97 + k / 26)).toNat : Int)) := D6
        have HR6 : Hid (97 + R = ((UInt8.ofNat (97 + k % 26)).toNat : Int)) := R6
        have HLT : Hid (k < 65) := hlt
        have HK65 : Hid (k ≤ 65) := hk
        clear D6 R6 hlt hk hlt' hk0
        obtain ⟨W20, hW20⟩ : ∃ W20, W20 = W19.alloc (.cells #[.int .u8 (97 + D), .int .u8 (97 + R)] 5) := ⟨_, rfl⟩
        have C20 := nm_conv HD6.out HR6.out W20 W19.heap.size (by rw [hW20]; exact alloc_at W19 _ _)
        have A20 : CAt W20 w18.heap.size rockH (.slice none 0 0) := by rw [hW20]; exact A19.keep (World.grownBy_alloc _ _ none)
        have HG20 : Hid (wr.grownBy W20 none) := by rw [hW20]; exact grown_push HG19.out _
        have a0 := A20.cells.1
        have af := fun i => A20.free i
        have HA20 : Hid (CAt W20 w18.heap.size rockH (.slice none 0 0)) := A20
        rw [hW20] at C20 a0 af
        clear A19 A20
        go_upto_region 11 with fail
        rw [← hW20]
        clear hW20 C20 a0 af D1 R1 D2 R2 D3 R3 D4 R4 D5 R5
        have hlt := HLT.out
        have hk := HK65.out
        obtain ⟨W21, hW21⟩ : ∃ W21, W21 = W20.setCell ⟨w18.heap.size, 0, none⟩ (.string (nm2 k)) := ⟨_, rfl⟩
        have A21 : CAt W21 w18.heap.size (fullH k) (.slice none 0 0) := by rw [hW21]; exact block_set HA20.out 0 _
        have hw18 : wr.heap.size ≤ w18.heap.size := g18.size
        have HG21 : Hid (wr.grownBy W21 none) := by rw [hW21]; exact grown_own HG20.out (grown_set _ _ _ _) (fun x e => by cases e; exact hw18)
        rw [← hW21]
        clear hW21 HA20 HG20 HG19 g18
        have B21 := HB.out.keep HG21.out
        obtain ⟨x0, x1, x2, x3, x4, x5, x6, x7, x8⟩ := A21.cells
        have HC := bcard ok2 F es plNew (fullH k) (.slice none 0 0) [] W21 B21 nb2 (nw2 _ B21.lt) (Or.inl ⟨rfl, rfl⟩) sm0
        clear A21 B21
        unfold cv at HC
        clear hw18
        rcases (show k < 64 ∨ k = 64 by omega) with h64 | h64
        · have HI' : FullIs es k := by have := HI.out; rwa [Nat.min_eq_left (by omega)] at this
          rw [full_card HI' h64] at HC
          have HN : Hid (∀ v, FullIs (ins es ⟨fullH k, v, []⟩) (min (k + 1) 64)) := fun v => by rw [Nat.min_eq_left (by omega)]; exact full_next HI' v
          have h64' : (k : Int) < 64 := by omega
          have hne : ((k : Int) == 64) = false := by simp; omega
          clear HI' HI h64
          go_wp2_with (first | (go_at_call 15; refine HC.mono ?_; rintro e w22 ⟨v, rfl, B22, g22⟩; rw [if_pos rfl] at B22; have HB22 : Hid (Book ok2 w22 F (ins es ⟨fullH k, v, []⟩) plNew) := B22; have HG22 : Hid (w.grownBy w22 none) := grown_own (grown_trans HG.out HG21.out) g22 (fun x e => by cases e; exact hwF); clear B22 g22) | fail)
          go_roundw
          case rel =>
            iterate 36 apply Exists.intro
            refine ⟨?_, rfl⟩
            exact ⟨k + 1, by omega, by first | rfl | (rw [hw]; rfl), ⟨_, HB22.out, HN.out v⟩, HG22.out⟩
          case measure => first | exact meas65 hlt | (rw [hw]; exact meas65 hlt)
        · subst h64
          have HI' : FullIs es 64 := HI.out
          rw [full_last HI'] at HC
          have HN : Hid (FullIs es (min 65 64)) := HI'
          clear HI' HI
          go_wp2_with (first | (go_at_call 15; refine HC.mono ?_; rintro e w22 ⟨v, rfl, B22, g22⟩; rw [if_neg (by decide)] at B22; have HB22 : Hid (Book ok2 w22 F es plNew) := B22; have HG22 : Hid (w.grownBy w22 none) := grown_own (grown_trans HG.out HG21.out) g22 (fun x e => by cases e; exact hwF); clear B22 g22) | fail)
          go_roundw
          case rel =>
            iterate 36 apply Exists.intro
            refine ⟨?_, rfl⟩
            exact ⟨65, by omega, by first | rfl | (rw [hw]; rfl), ⟨es, HB22.out, HN.out⟩, HG22.out⟩
          case measure => first | exact meas65 hlt | (rw [hw]; exact meas65 hlt) | decide
  case rest =>
    obtain ⟨es, B, FI, G⟩ := hcut
    obtain ⟨W0, hW0⟩ : ∃ W0, W0 = wc := ⟨_, rfl⟩
    subst hW0
    have HBF : Hid (BkIn W0 F es plNew) := B.lies
    have HLF : Hid (es.length = 64) := FI.1
    have HG0 : Hid (w.grownBy W0 none) := G
    have hFl : F < W0.heap.size := B.lt
    clear B FI G
    obtain ⟨ok3, hok3⟩ : ∃ ok : Nat → Prop, ok = fun k => ¬ k = W0.heap.size := ⟨_, rfl⟩
    have nb3 : ¬ ok3 W0.heap.size := by rw [hok3]; simp
    have nw3 : ∀ W : World, W0.heap.size < W.heap.size → ∀ k, W.heap.size ≤ k → ok3 k := fun W h k hk => by rw [hok3]; simp; omega
    have sm1 : Small 1 := by unfold Small; decide
    clear hok3
    go_wp2_with fail
    refine (bnew ok3 W0).mono ?_
    rintro e w30 ⟨rfl, B30, g30, s30⟩
    have HB30 : Hid (Book ok3 w30 W0.heap.size [] plNew) := B30
    have HG30 : Hid (W0.grownBy w30 none) := g30
    clear B30 g30
    go_wp2_with fail
    refine (axe_any2 _).mono ?_
    rintro e w31 ⟨g, rfl, P31, hg31, g31⟩
    unfold cv axeH
    obtain ⟨W32, hW32⟩ : ∃ W32, W32 = w31.alloc (.cells #[.string ⟨#[97, 120, 101]⟩, .int .u8 1, .int .u8 3, .int .i64 2, .int .i64 0, .int .i64 0, .int .u16 0, .bool false, .slice (some ⟨g, 0, none⟩) 1 1] 28) := ⟨_, rfl⟩
    have hg31l : g < w31.heap.size := block_lt P31
    have HG32 : Hid (w30.grownBy W32 none) := by rw [hW32]; exact grown_push g31 _
    have P32 := grown_keep (show w31.grownBy W32 none by rw [hW32]; exact World.grownBy_alloc _ _ none) P31 (by simp)
    have A32 : CAt W32 w31.heap.size axeH (.slice (some ⟨g, 0, none⟩) 1 1) := by rw [hW32]; exact alloc_at w31 _ _
    have a8 := A32.cells.2.2.2.2.2.2.2.2
    have p7 : W32.cell? ⟨g, 7, none⟩ = some (.string ⟨#[114, 111, 99, 107]⟩) := block_cell P32 7
    have f7 := block_free P32 7
    obtain ⟨W33, hW33⟩ : ∃ W33, W33 = W32.setCell ⟨g, 7, none⟩ (.string ⟨#[102, 111, 103]⟩) := ⟨_, rfl⟩
    have P33 : W33.heap[g]? = some (.cells #[.int .u8 3, .int .u8 7, .int .u8 1, .int .i64 1, .int .u8 0, .int .u8 0, .int .u8 0, .string ⟨#[102, 111, 103]⟩] 70 (0, 0)) := by rw [hW33]; exact block_set P32 7 _
    have A33 : CAt W33 w31.heap.size axeH (.slice (some ⟨g, 0, none⟩) 1 1) := by rw [hW33]; exact A32.keepR (grown_set _ _ _ _) (by simp; omega)
    have B33 : Book ok3 W33 W0.heap.size [] plNew := by
      rw [hW33]
      have h0 := (HB30.out.keep HG32.out)
      exact ⟨h0.lies.keepR (grown_set _ _ _ _) (by simp; omega), fun e he => by simp at he, h0.srt, h0.fine, h0.may⟩
    have HF33 : Hid (BkIn W33 F es plNew) := by rw [hW33]; exact ((HBF.out.keep HG30.out).keep HG32.out).keepR (grown_set _ _ _ _) (by simp; omega)
    have HG33 : Hid (W0.grownBy W33 none) := by rw [hW33]; exact grown_own (grown_trans HG30.out HG32.out) (grown_set _ _ _ _) (fun x e => by cases e; omega)
    have HP33 : Hid (PsAt W33 (.slice (some ⟨g, 0, none⟩) 1 1) [fogP]) := ps_block P33
    obtain ⟨x0, x1, x2, x3, x4, x5, x6, x7, x8⟩ := A33.cells
    have HB33 : Hid (Book ok3 W33 W0.heap.size [] plNew) := B33
    have h33 : W0.heap.size < W33.heap.size := B33.lt
    clear P31 P32 P33 A32 A33 B33 g31 HB30 HG30 HG32 hg31l
    go_upto_region 16 with fail
    rw [← hW32]
    clear hW32
    go_upto_region 17 with fail
    rw [← hW33]
    clear hW33 a8 p7 f7
    go_wp2_with fail
    refine (bcard ok3 _ [] plNew axeH _ [fogP] _ HB33.out nb3 (nw3 _ h33) HP33.out sm1).mono ?_
    rintro e w34 ⟨u34, rfl, B34, g34⟩
    rw [fg1] at B34 ⊢
    rw [if_pos rfl, show ins [] ⟨axeH, u34, [fogP]⟩ = [⟨axeH, u34, [fogP]⟩] from rfl] at B34
    have HG34 : Hid (W0.grownBy w34 none) := grown_own HG33.out g34 (fun x e => by cases e; exact Nat.le_refl _)
    have HF34 : Hid (BkIn w34 F es plNew) := HF33.out.keepR g34 (by simp; omega)
    have HB34 : Hid (Book ok3 w34 W0.heap.size [⟨axeH, u34, [fogP]⟩] plNew) := B34
    clear x0 x1 x2 x3 x4 x5 x6 x7 x8 g34 B34 HG33 HF33 HB33 HP33 h33
    go_wp2_with fail
    refine (bcard ok3 _ _ plNew fogH (.slice none 0 0) [] _ HB34.out nb3 (nw3 _ HB34.out.lt) (Or.inl ⟨rfl, rfl⟩) sm0).mono ?_
    rintro e w35 ⟨u35, rfl, B35, g35⟩
    rw [fg2] at B35 ⊢
    rw [if_pos rfl, fg3] at B35
    have HG35 : Hid (W0.grownBy w35 none) := grown_own HG34.out g35 (fun x e => by cases e; exact Nat.le_refl _)
    have HF35 : Hid (BkIn w35 F es plNew) := HF34.out.keepR g35 (by simp; omega)
    clear g35 HG34 HF34 HB34
    go_wp2_with fail
    refine (bseal ok3 _ _ plNew _ B35 nb3).mono ?_
    rintro e w36 ⟨rfl, _, g36⟩
    rw [fg4]
    have HG36 : Hid (W0.grownBy w36 none) := grown_own HG35.out g36 (fun x e => by cases e; exact Nat.le_refl _)
    have HF36 : Hid (BkIn w36 F es plNew) := HF35.out.keepR g36 (by simp; omega)
    clear g36 HG35 HF35 B35
    go_wp2_with fail
    refine (awake_any _).mono ?_
    rintro e w37 ⟨rfl, g37⟩
    have HF37 : Hid (BkIn w37 F es plNew) := HF36.out.keep g37
    have HG37 : Hid (w.grownBy w37 none) := grown_trans HG0.out (grown_trans HG36.out g37)
    clear g37 HF36 HG36
    go_wp2_with fail
    refine (len_yes F es.length HF37.out.len plNew _ HF37.out.flags).mono ?_
    rintro e w38 ⟨rfl, g38, _⟩
    have HG38 : Hid (w.grownBy w38 none) := grown_trans HG37.out g38
    clear g38
    rw [HLF.out]
    go_wp2
    go_ret
    exact ⟨rfl, HG38.out⟩
end Go.Proofs.Ythpdaiknpdoeiaa
