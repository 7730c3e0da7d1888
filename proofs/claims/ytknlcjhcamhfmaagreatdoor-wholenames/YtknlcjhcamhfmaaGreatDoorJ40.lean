/-
  addAll of cards.
  The table of the six suits: names and functions.
  fill of package air.
-/
import Derived.Test.YtknlcjhcamhfmaaGreatDoorJ39
import Derived.Laws.EntriesVeiled
import Derived.Deep.RegionHeld3
namespace Go.Proofs.YtknlcjhcamhfmaaGreatDoor
open Go.RowKit

theorem fresh_at {α β : Type} {f : α → β} {d l : List α} (h : ((d ++ l).map f).Nodup) {j : Nat} {c : α} (hc : l[j]? = some c) : ¬ f c ∈ (d ++ l.take j).map f := by
  obtain ⟨h1, h2⟩ := List.getElem?_eq_some_iff.1 hc
  have h3 : l = l.take j ++ (c :: l.drop (j + 1)) := by rw [← h2, ← List.drop_eq_getElem_cons h1, List.take_append_drop]
  rw [h3, ← List.append_assoc, List.map_append, List.nodup_append] at h
  intro hm
  exact h.2.2 _ hm _ (List.mem_map.2 ⟨c, by simp, rfl⟩) rfl
theorem perm_next {α : Type} {d l a : List α} {j : Nat} {c : α} (hc : l[j]? = some c) (h : a.Perm (d ++ l.take j)) {a' : List α} (h' : a'.Perm (c :: a)) : a'.Perm (d ++ l.take (j + 1)) := by
  rw [List.take_add_one, hc, ← List.append_assoc]
  refine h'.trans ((List.Perm.cons c h).trans ?_)
  exact (List.perm_append_singleton c _).symm
set_option maxRecDepth 100000 in
set_option maxHeartbeats 8000000 in
theorem addC_any (ok : Nat → Prop) (b g base : Nat) (es cs : List Ent) (p : Pl) (sp d : List (Hd × List Pt)) (w : World) (B : Book ok w b es p) (hok : ¬ ok b) (hnew : ∀ n, w.heap.size ≤ n → ok n) (hgb : ¬ g = b) (Hl : w.heap[g]? = some (.cells (ecells cs).toArray 56 (0, 0))) (his : cs.map hp = sp) (hps : ∀ e ∈ cs, Own8 base w e.v e.ps) (hbb : b < base) (hE : (es.map hp).Perm d) (hN : ((d ++ sp).map fun x => x.1.nm).Nodup) (hC : ∀ x ∈ sp, cchk (x.1.with x.2) = 0) (h64 : d.length + sp.length ≤ 64) (h4 : ∀ x ∈ sp, x.2.length ≤ 4) (hs : p.shut = false) : Calls Tryz.prog 187 #[.slice (some ⟨g, 0, none⟩) cs.length cs.length, .func (.func 25) #[.pointer (some ⟨b, 0, none⟩)] #[]] w fun e w' => e = .returned (.int .i64 0) ∧ ∃ es', Book ok w' b es' p ∧ (es'.map hp).Perm (d ++ sp) ∧ w.grownBy w' (some b) := by
  have HL : Hid (w.heap[g]? = some (.cells (ecells cs).toArray 56 (0, 0))) := Hl
  have HP : Hid (∀ e ∈ cs, Own8 base w e.v e.ps) := hps
  have HNo : Hid (((d ++ sp).map fun x => x.1.nm).Nodup) := hN
  have HC : Hid (∀ x ∈ sp, cchk (x.1.with x.2) = 0) := hC
  have H4 : Hid (∀ x ∈ sp, x.2.length ≤ 4) := h4
  have HI : Hid (cs.map hp = sp) := his
  have HB : Hid (Book ok w b es p) := B
  have HE : Hid ((es.map hp).Perm d) := hE
  have H64 : Hid (d.length + sp.length ≤ 64) := h64
  have HS : Hid (p.shut = false) := hs
  have HW : Hid (∀ n, w.heap.size ≤ n → ok n) := hnew
  have hlen : cs.length = sp.length := by rw [← his]; simp
  have hsm : Small cs.length := by unfold Small; omega
  have HLn : Hid (cs.length = sp.length) := hlen
  clear Hl hps hN hC his B hE h64 h4 hs hlen hnew
  go_enter Tryz.func187, Tryz.ntmps187
  go_wp2_with fail
  go_loopw [10] (fun x wr => ∃ (j : Nat) (fs : List Ent), j ≤ cs.length ∧ x = .int .i64 (j : Int) ∧ Book ok wr b fs p ∧ (fs.map hp).Perm (d ++ sp.take j) ∧ w.grownBy wr (some b)) (fun x _ => cs.length - (intOf x).toNat)
  case atStart => exact ⟨0, es, Nat.zero_le _, rfl, HB.out, by simpa using HE.out, grown_refl _ _⟩
  case round =>
    clear HB HE
    obtain ⟨j, fs, hj, rfl, B, Pm, Gr⟩ := hrel
    obtain ⟨U, hU⟩ : ∃ U, U = wr := ⟨_, rfl⟩
    subst hU
    have HB : Hid (Book ok U b fs p) := B
    have HG : Hid (w.grownBy U (some b)) := Gr
    have HPm : Hid ((fs.map hp).Perm (d ++ sp.take j)) := Pm
    clear B Gr Pm
    rcases (show j < cs.length ∨ j = cs.length from by omega) with h1 | h1
    · have h1' : (j : Int) < (cs.length : Int) := by omega
      have j0 : (0 : Int) ≤ (j : Int) := by omega
      obtain ⟨e0, he0⟩ : ∃ e, cs[j]? = some e := ⟨_, List.getElem?_eq_getElem h1⟩
      have hsp : sp[j]? = some (hp e0) := by rw [← HI.out, List.getElem?_map, he0]; rfl
      have mem0 := List.mem_of_getElem? hsp
      have HT : caE p fs (e0.h.with e0.ps) = 0 := card_taken (c := hp e0) HPm.out (fresh_at HNo.out hsp) (HC.out _ mem0) (by have h7 := H64.out; have h8 := HLn.out; simp only [List.length_append, List.length_take]; omega) HS.out
      have Hps : e0.ps.length ≤ 4 := H4.out _ mem0
      have HO := (HP.out e0 (List.mem_of_getElem? he0)).keepR HG.out (fun k hk e => by injection e with e; omega)
      have HD : C9 U g (j * 9) e0.h e0.v := Lie.row (es := cs) ⟨[], by rw [List.append_nil]; exact grown_keep HG.out HL.out (fun e => hgb (by injection e))⟩ he0
      have HNx : Hid (∀ u, ((ins fs ⟨e0.h, u, e0.ps⟩).map hp).Perm (d ++ sp.take (j + 1))) := fun u => perm_next hsp HPm.out (ins_hp fs ⟨e0.h, u, e0.ps⟩)
      have HPs : Hid (PsAt U e0.v e0.ps) := HO.at
      have hsmp : Small e0.ps.length := by unfold Small; omega
      clear he0 hsp mem0 Hps
      obtain ⟨⟨nm, su, kd, co, po, he, tr, tk⟩, vv, ps⟩ := e0
      simp only at HD HPs HO HNx hsmp HT
      obtain ⟨xx, yy, rfl⟩ := HO.at.form
      clear HO
      obtain ⟨z0, z1, z2, z3, z4, z5, z6, z7, z8⟩ := HD
      have HK2 := fun W (gr : U.grownBy W none) => bcard ok b fs p ⟨nm, su, kd, co, po, he, tr, tk⟩ _ ps W (HB.out.keep gr) hok (fun k hk => HW.out k (Nat.le_trans (Nat.le_trans HG.out.size gr.size) hk)) (HPs.out.keep gr) hsmp
      rw [HT] at HK2
      unfold cv at HK2
      have HCM : Hid (∀ W, U.grownBy W none → _) := HK2
      clear HK2 HT
      go_wp2_with fail
      refine (HCM.out _ (World.grownBy_alloc _ _ none)).mono ?_
      rintro e U3 ⟨u, rfl, B3, g3⟩
      (first | rw [if_pos rfl] at B3 | rw [if_pos trivial] at B3)
      have HB3 : Hid (Book ok U3 b (ins fs ⟨⟨nm, su, kd, co, po, he, tr, tk⟩, u, ps⟩) p) := B3
      have HG3 : Hid (w.grownBy U3 (some b)) := HG.out.trans (grown_own' (World.grownBy_alloc _ _ none) g3)
      clear B3 g3 z0 z1 z2 z3 z4 z5 z6 z7 z8 HCM
      go_wp2_with fail
      go_roundw
      case rel => exact ⟨j + 1, _, h1, by first | rfl | (rw [hsm.wrap h1]; rfl), HB3.out, HNx.out u, HG3.out⟩
      case measure => first | exact meas_next h1 | (rw [hsm.wrap h1]; exact meas_next h1)
    · have h1' : ¬ (j : Int) < (cs.length : Int) := by omega
      have HF : Hid ((fs.map hp).Perm (d ++ sp)) := by have h9 := HPm.out; rw [h1, HLn.out, List.take_of_length_le (Nat.le_refl _)] at h9; exact h9
      clear h1 HPm
      go_wp2
      go_ret
      exact ⟨rfl, fs, HB.out, HF.out, HG.out⟩
end Go.Proofs.YtknlcjhcamhfmaaGreatDoor
namespace Go.Proofs.YtknlcjhcamhfmaaGreatDoor
open Go.RowKit

def fL : Nat → Nat
  | 0 => 79 | 1 => 83 | 2 => 87 | 3 => 91 | 4 => 95 | _ => 99
def fT : Nat → Nat
  | 0 => 80 | 1 => 84 | 2 => 88 | 3 => 92 | 4 => 96 | _ => 100
def fM : Nat → Nat
  | 0 => 81 | 1 => 85 | 2 => 89 | 3 => 93 | 4 => 97 | _ => 101
def fU : Nat → Nat
  | 0 => 82 | 1 => 86 | 2 => 90 | 3 => 94 | 4 => 98 | _ => 102
def sNm : Nat → ByteArray
  | 0 => ⟨#[97, 105, 114]⟩ | 1 => ⟨#[101, 97, 114, 116, 104]⟩ | 2 => ⟨#[102, 105, 114, 101]⟩ | 3 => ⟨#[119, 97, 116, 101, 114]⟩ | 4 => ⟨#[118, 111, 105, 100]⟩ | _ => ⟨#[103, 111, 108, 100]⟩
def sNo : Nat → Int
  | 0 => 27 | 1 => 31 | 2 => 68 | 3 => 51 | 4 => 147 | _ => 215
def srcC (k : Nat) : List Value := [.string (sNm k), .func (.func (fL k)) #[] #[], .func (.func (fT k)) #[] #[], .func (.func (fM k)) #[] #[], .func (.func (fU k)) #[] #[]]
def srcs (ks : List Nat) : List Value := ks.flatMap srcC
def all6 : List Nat := [0, 1, 2, 3, 4, 5]
theorem srcs_len : ∀ ks : List Nat, (srcs ks).length = ks.length * 5
  | [] => rfl
  | k :: r => by
    have h := srcs_len r
    unfold srcs at h ⊢
    rw [List.flatMap_cons, List.length_append, h, List.length_cons]
    simp only [srcC, List.length_cons, List.length_nil]
    omega
theorem srcs_at : ∀ (ks : List Nat) (j k : Nat), ks[j]? = some k → ∀ i, i < 5 → (srcs ks)[j * 5 + i]? = (srcC k)[i]?
  | [], j, k, h, i, _ => by simp at h
  | q :: r, 0, k, h, i, hi => by
    obtain rfl : q = k := by simpa using h
    unfold srcs
    rw [List.flatMap_cons, Nat.zero_mul, Nat.zero_add]
    exact List.getElem?_append_left (by simpa [srcC] using hi)
  | q :: r, j + 1, k, h, i, hi => by
    have ih := srcs_at r j k (by simpa using h) i hi
    unfold srcs at ih ⊢
    rw [List.flatMap_cons, List.getElem?_append_right (by simp [srcC]; omega), ← ih]
    congr 1
    simp [srcC]
    omega
/-- A row of sources in memory. -/
structure S5 (w : World) (g o k : Nat) : Prop where
  c0 : w.cell? ⟨g, o, none⟩ = some (.string (sNm k))
  c1 : w.cell? ⟨g, o + 1, none⟩ = some (.func (.func (fL k)) #[] #[])
  c2 : w.cell? ⟨g, o + 2, none⟩ = some (.func (.func (fT k)) #[] #[])
  c3 : w.cell? ⟨g, o + 3, none⟩ = some (.func (.func (fM k)) #[] #[])
  c4 : w.cell? ⟨g, o + 4, none⟩ = some (.func (.func (fU k)) #[] #[])
theorem S5.keepR {w w' : World} {g o k : Nat} {r : Option Nat} (h : S5 w g o k) (gr : w.grownBy w' r) (hr : some g ≠ r) : S5 w' g o k := ⟨gr.cell h.c0 hr, gr.cell h.c1 hr, gr.cell h.c2 hr, gr.cell h.c3 hr, gr.cell h.c4 hr⟩
def SrcAt (w : World) (g : Nat) (ks : List Nat) : Prop := ∀ j k, ks[j]? = some k → S5 w g (j * 5) k
theorem SrcAt.keepR {w w' : World} {g : Nat} {ks : List Nat} {r : Option Nat} (h : SrcAt w g ks) (gr : w.grownBy w' r) (hr : some g ≠ r) : SrcAt w' g ks := fun j k hk => (h j k hk).keepR gr hr
theorem src_of {w : World} {g : Nat} {ks : List Nat} {junk : List Value} {t : TypeId} (h : w.heap[g]? = some (.cells (srcs ks ++ junk).toArray t (0, 0))) : SrcAt w g ks := fun j k hk => by
  have hj := (List.getElem?_eq_some_iff.1 hk).1
  have at_ : ∀ i u, i < 5 → (srcC k)[i]? = some u → w.cell? ⟨g, j * 5 + i, none⟩ = some u := fun i u hi hu => by
    rw [block_cell h, List.getElem?_toArray, List.getElem?_append_left (by rw [srcs_len]; omega), srcs_at ks j k hk i hi]
    exact hu
  exact ⟨at_ 0 _ (by omega) rfl, at_ 1 _ (by omega) rfl, at_ 2 _ (by omega) rfl, at_ 3 _ (by omega) rfl, at_ 4 _ (by omega) rfl⟩
end Go.Proofs.YtknlcjhcamhfmaaGreatDoor
namespace Go.Proofs.YtknlcjhcamhfmaaGreatDoor
open Go.RowKit

set_option maxRecDepth 100000 in
set_option maxHeartbeats 8000000 in
theorem fill_0 (ok : Nat → Prop) (b : Nat) (es : List Ent) (p q : Pl) (d : List (Hd × List Pt)) (w : World) (B : Book ok w b es p) (hok : ¬ ok b) (hnew : ∀ n, w.heap.size ≤ n → ok n) (N : NamesAt w) (h0 : ¬ b = 0) (hS : stepOk 0 p q) (hq : q.shut = false) (hE : (es.map hp).Perm d) (hN : ((d ++ sCs 0).map fun x => x.1.nm).Nodup) (h64 : d.length + 6 ≤ 64) : Calls Tryz.prog 104 #[.pointer (some ⟨b, 0, none⟩), .agg #[.string ⟨#[97, 105, 114]⟩, .func (.func 79) #[] #[], .func (.func 80) #[] #[], .func (.func 81) #[] #[], .func (.func 82) #[] #[]]] w fun e w' => e = .returned (.int .i64 0) ∧ ∃ es', Book ok w' b es' q ∧ (es'.map hp).Perm (d ++ sCs 0) ∧ w.grownBy w' (some b) := by
  have hmf : ∀ (fn : Fn) (first cap : Array Value) (w : World), (Instr.makeFunc fn first cap).run Tryz.prog w = .ok (.func fn first cap) w := fun _ _ _ _ => rfl
  have HB : Hid (Book ok w b es p) := B
  have HN : Hid (NamesAt w) := N
  have HW : Hid (∀ n, w.heap.size ≤ n → ok n) := hnew
  have HE : Hid ((es.map hp).Perm d) := hE
  have HNo : Hid (((d ++ sCs 0).map fun x => x.1.nm).Nodup) := hN
  have HS : Hid (stepOk 0 p q) := hS
  have HQ : Hid (q.shut = false) := hq
  have H64 : Hid (d.length + 6 ≤ 64) := h64
  have hbw : b < w.heap.size := B.lt
  clear B N hnew hE hN hS hq h64
  obtain ⟨X, hX⟩ : ∃ X, X = w.heap.size := ⟨_, rfl⟩
  obtain ⟨W2, hW2⟩ : ∃ W2, W2 = (w.alloc (.cells #[.pointer (some ⟨b, 0, none⟩)] 24)).alloc (.cells #[.string ⟨#[97, 105, 114]⟩, .func (.func 79) #[] #[], .func (.func 80) #[] #[], .func (.func 81) #[] #[], .func (.func 82) #[] #[]] 83) := ⟨_, rfl⟩
  have G2 : w.grownBy W2 none := by rw [hW2]; exact grown_push (World.grownBy_alloc _ _ none) _
  have X2 : W2.heap[X]? = some (.cells #[.pointer (some ⟨b, 0, none⟩)] 24 (0, 0)) := by rw [hW2, hX]; exact grown_keep (World.grownBy_alloc _ _ none) (alloc_at w _ _) (by simp)
  have Y2 : W2.heap[X + 1]? = some (.cells #[.string ⟨#[97, 105, 114]⟩, .func (.func 79) #[] #[], .func (.func 80) #[] #[], .func (.func 81) #[] #[], .func (.func 82) #[] #[]] 83 (0, 0)) := by
    have := alloc_at (w.alloc (.cells #[.pointer (some ⟨b, 0, none⟩)] 24)) #[.string ⟨#[97, 105, 114]⟩, .func (.func 79) #[] #[], .func (.func 80) #[] #[], .func (.func 81) #[] #[], .func (.func 82) #[] #[]] 83
    rw [World.size_alloc] at this
    rw [hW2, hX]
    exact this
  have x0 : W2.cell? ⟨X, 0, none⟩ = some (.pointer (some ⟨b, 0, none⟩)) := block_cell X2 0
  have y1 : W2.cell? ⟨X + 1, 1, none⟩ = some (.func (.func 79) #[] #[]) := block_cell Y2 1
  have y2 : W2.cell? ⟨X + 1, 2, none⟩ = some (.func (.func 80) #[] #[]) := block_cell Y2 2
  have y3 : W2.cell? ⟨X + 1, 3, none⟩ = some (.func (.func 81) #[] #[]) := block_cell Y2 3
  have HG2 : Hid (w.grownBy W2 none) := G2
  have HX0 : Hid (W2.cell? ⟨X, 0, none⟩ = some (.pointer (some ⟨b, 0, none⟩))) := x0
  have HY1 : Hid (W2.cell? ⟨X + 1, 1, none⟩ = some (.func (.func 79) #[] #[])) := y1
  have HY2 : Hid (W2.cell? ⟨X + 1, 2, none⟩ = some (.func (.func 80) #[] #[])) := y2
  have hxb : ¬ X = b := by omega
  have hyb : ¬ X + 1 = b := by omega
  have H0 : W2.grownBy W2.drew (some b) := grown_drew' _ _
  have HBd : Hid (Book ok W2.drew b es p) := (HB.out.keep G2).keep (grown_drew _)
  clear X2 Y2 y1 y2 G2
  go_enter Tryz.func104, Tryz.ntmps104
  go_upto_region 1 with fail
  rw [← hX, ← hW2]
  have HXs : Hid (X = w.heap.size) := hX
  clear hW2 hX
  refine wp_region_held_drew (S := fun w' => W2.grownBy w' (some b)) (by kernel_rfl) H0 (fun hHeld => ?_)
  refine wpAnyH_take (i := 0) (v := ?_) rfl (by kernel_rfl) (by kernel_rfl) (by kernel_rfl) (fun _ _ _ h => h) (Or.inl ⟨by rfl, ?_⟩) (by assumption) ?_
  rotate_left 1
  · (intro w0 hSw; go_simp; try with_reducible rfl)
  simp only [List.getElem_toArray, List.getElem_cons_zero]
  go_frame
  refine wpAnyH_take (i := 1) (v := ?_) rfl (by kernel_rfl) (by kernel_rfl) (by kernel_rfl) (fun _ _ _ h => h) (Or.inl ⟨by rfl, ?_⟩) (by assumption) ?_
  rotate_left 1
  · (intro w0 hSw; have a9 := World.grownBy.cell hSw y3 (by simpa using hyb); go_simp; try with_reducible rfl)
  simp only [List.getElem_toArray, List.getElem_cons_zero, List.getElem_cons_succ]
  go_frame
  refine wpAnyH_take (i := 3) (v := ?_) rfl (by kernel_rfl) (by kernel_rfl) (by kernel_rfl) (fun _ _ _ h => h) (Or.inl ⟨by rfl, ?_⟩) (by assumption) ?_
  rotate_left 1
  · (intro w0 hSw; have a9 := World.grownBy.cell hSw x0 (by simpa using hxb); go_simp; try with_reducible rfl)
  simp only [List.getElem_toArray, List.getElem_cons_zero, List.getElem_cons_succ]
  go_frame
  refine wpAnyH_take (i := 4) (v := ?_) rfl (by kernel_rfl) (by kernel_rfl) (by kernel_rfl) (fun _ _ _ h => h) (Or.inl ⟨by rfl, ?_⟩) (by assumption) ?_
  rotate_left 1
  · (intro w0 hSw; go_simp; try with_reducible rfl)
  simp only [List.getElem_toArray, List.getElem_cons_zero, List.getElem_cons_succ]
  go_frame
  refine wpAnyH_ready (rs := [2]) (by kernel_rfl) (by simp) ?_
  refine AllReadyH.cons rfl (fun K hK => ?_) AllReadyH.nil
  simp only [List.getElem_toArray, List.getElem_cons_zero, List.getElem_cons_succ]
  go_simp
  go_at_call 81
  refine (Ai.marks W2.drew).mono ?_
  rintro e U3 ⟨rfl, h3⟩
  have g3 : W2.drew.grownBy U3 none := by rw [h3]; exact grown_refl _ _
  have m3 : MsAt U3 b (.slice none 0 0) (sMs 0) := ⟨_, rfl, fun h => absurd h (by decide)⟩
  clear h3
  refine hK.out _ _ (grown_own' (grown_trans (grown_drew _) g3) (grown_refl _ _)) (fun hHeld2 => ?_)
  clear hK K
  (try go_frame)
  refine wpAnyH_ready (rs := [5]) (by kernel_rfl) (by simp) ?_
  refine AllReadyH.cons rfl (fun K hK => ?_) AllReadyH.nil
  simp only [List.getElem_toArray, List.getElem_cons_zero, List.getElem_cons_succ]
  go_simp
  go_at_call 183
  refine (addM_any ok b es p (sMs 0) _ U3 (HBd.out.keep g3) hok m3 HS.out.1 (by decide)).mono ?_
  rintro e U4 ⟨rfl, B4, g4⟩
  refine hK.out _ _ (grown_own' (grown_trans (grown_drew _) g3) g4) (fun hHeld2 => ?_)
  clear hK K
  (try go_frame)
  refine wpAnyH_take (i := 6) (v := ?_) rfl (by kernel_rfl) (by kernel_rfl) (by kernel_rfl) (fun _ _ _ h => h) (Or.inl ⟨by rfl, ?_⟩) (by assumption) ?_
  rotate_left 1
  · (intro w0 hSw; go_simp; try with_reducible rfl)
  simp only [List.getElem_toArray, List.getElem_cons_zero, List.getElem_cons_succ]
  go_frame
  refine wpAnyH_done (by kernel_rfl) ?_ _
  have HB4 : Hid (Book ok U4 b es (pMs p (sMs 0))) := B4
  have HG4 : Hid (W2.grownBy U4 (some b)) := grown_own' (grown_trans (grown_drew _) g3) g4
  clear B4 g4 g3 m3 hHeld hHeld2 H0 HBd x0 y3 HB
  have y2 := HG4.out.cell HY2.out (by simpa using hyb)
  go_wp2_with fail
  refine (Ai.traits U4).mono ?_
  rintro e U5 ⟨rfl, h5⟩
  have g5 : U4.grownBy U5 none := by rw [h5]; exact World.grownBy_alloc _ _ none
  have t5 : TsAt U5 b (.slice (some ⟨U4.heap.size, 0, none⟩) 2 2) (sTs 0) := ⟨_, rfl, fun _ => ⟨_, rfl, fun e => by have := HG2.out.size; have := HG4.out.size; omega, by rw [h5]; exact alloc_at _ _ _⟩⟩
  have CT := addT_any ok b X es (pMs p (sMs 0)) (sTs 0) _ U5 (HB4.out.keep g5) hok (((HN.out.keep HG2.out).keepR HG4.out (by simpa using fun e => h0 e.symm)).keep g5) h0 (g5.cell (HG4.out.cell HX0.out (by simpa using hxb)) (by simp)) hxb t5 HS.out.2.1 (by decide)
  rw [HS.out.2.2] at CT
  clear y2 h5 t5
  go_wp2_with fail
  refine CT.mono ?_
  rintro e U6 ⟨rfl, B6, g6⟩
  have HB6 : Hid (Book ok U6 b es q) := B6
  have HG6 : Hid (W2.grownBy U6 (some b)) := HG4.out.trans (grown_own' g5 g6)
  clear B6 g6 g5 CT HB4 HG4
  have y1 := HG6.out.cell HY1.out (by simpa using hyb)
  have x0 := HG6.out.cell HX0.out (by simpa using hxb)
  have H0 : U6.grownBy U6.drew (some b) := grown_drew' _ _
  go_upto_region 8 with fail
  refine wp_region_held_drew (S := fun w' => U6.grownBy w' (some b)) (by kernel_rfl) H0 (fun hHeld => ?_)
  refine wpAnyH_take (i := 0) (v := ?_) rfl (by kernel_rfl) (by kernel_rfl) (by kernel_rfl) (fun _ _ _ h => h) (Or.inl ⟨by rfl, ?_⟩) (by assumption) ?_
  rotate_left 1
  · (intro w0 hSw; go_simp; try with_reducible rfl)
  simp only [List.getElem_toArray, List.getElem_cons_zero]
  go_frame
  refine wpAnyH_take (i := 1) (v := ?_) rfl (by kernel_rfl) (by kernel_rfl) (by kernel_rfl) (fun _ _ _ h => h) (Or.inl ⟨by rfl, ?_⟩) (by assumption) ?_
  rotate_left 1
  · (intro w0 hSw; have a9 := World.grownBy.cell hSw y1 (by simpa using hyb); go_simp; try with_reducible rfl)
  simp only [List.getElem_toArray, List.getElem_cons_zero, List.getElem_cons_succ]
  go_frame
  refine wpAnyH_take (i := 3) (v := ?_) rfl (by kernel_rfl) (by kernel_rfl) (by kernel_rfl) (fun _ _ _ h => h) (Or.inl ⟨by rfl, ?_⟩) (by assumption) ?_
  rotate_left 1
  · (intro w0 hSw; have a9 := World.grownBy.cell hSw x0 (by simpa using hxb); go_simp; try with_reducible rfl)
  simp only [List.getElem_toArray, List.getElem_cons_zero, List.getElem_cons_succ]
  go_frame
  refine wpAnyH_take (i := 4) (v := ?_) rfl (by kernel_rfl) (by kernel_rfl) (by kernel_rfl) (fun _ _ _ h => h) (Or.inl ⟨by rfl, ?_⟩) (by assumption) ?_
  rotate_left 1
  · (intro w0 hSw; go_simp; try with_reducible rfl)
  simp only [List.getElem_toArray, List.getElem_cons_zero, List.getElem_cons_succ]
  go_frame
  refine wpAnyH_ready (rs := [2]) (by kernel_rfl) (by simp) ?_
  refine AllReadyH.cons rfl (fun K hK => ?_) AllReadyH.nil
  simp only [List.getElem_toArray, List.getElem_cons_zero, List.getElem_cons_succ]
  go_simp
  go_at_call 79
  refine (Ai.list_std U6.drew).mono ?_
  rintro e U7 ⟨g, cs, rfl, A⟩
  have hcl : cs.length = 6 := by have h9 := congrArg List.length A.is; rw [List.length_map] at h9; exact h9
  have szU : X ≤ U6.drew.heap.size := by have h6 := HXs.out; have h7 := HG2.out.size; have h8 := HG6.out.size; have h9 := (grown_drew U6).size; omega
  have CC := addC_any ok b g U6.drew.heap.size es cs q (sCs 0) d U7 ((HB6.out.keep (grown_drew _)).keep A.gr) hok (fun n hn => HW.out n (by have h6 := HXs.out; have h9 := A.gr.size; omega)) (fun e => by have h6 := HXs.out; have h9 := A.low; omega) A.lies A.is A.own (by have h6 := HXs.out; omega) HE.out HNo.out (fun x hx => cAll_chk x (sCs_mem (by decide) hx)) (by rw [show (sCs 0).length = 6 from rfl]; exact H64.out) (fun x hx => cAll_four x (sCs_mem (by decide) hx)) HQ.out
  rw [hcl] at CC
  refine hK.out _ _ (grown_own' (grown_trans (grown_drew _) A.gr) (grown_refl _ _)) (fun hHeld2 => ?_)
  clear hK K
  (try go_frame)
  refine wpAnyH_ready (rs := [5]) (by kernel_rfl) (by simp) ?_
  refine AllReadyH.cons rfl (fun K hK => ?_) AllReadyH.nil
  simp only [List.getElem_toArray, List.getElem_cons_zero, List.getElem_cons_succ]
  go_simp
  go_at_call 187
  refine (CC).mono ?_
  rintro e U8 ⟨rfl, es2, B8, P8, g8⟩
  refine hK.out _ _ (grown_own' (grown_trans (grown_drew _) A.gr) g8) (fun hHeld2 => ?_)
  clear hK K
  (try go_frame)
  refine wpAnyH_take (i := 6) (v := ?_) rfl (by kernel_rfl) (by kernel_rfl) (by kernel_rfl) (fun _ _ _ h => h) (Or.inl ⟨by rfl, ?_⟩) (by assumption) ?_
  rotate_left 1
  · (intro w0 hSw; go_simp; try with_reducible rfl)
  simp only [List.getElem_toArray, List.getElem_cons_zero, List.getElem_cons_succ]
  go_frame
  refine wpAnyH_done (by kernel_rfl) ?_ _
  have HF : Hid (Book ok U8 b es2 q ∧ (es2.map hp).Perm (d ++ sCs 0) ∧ w.grownBy U8 (some b)) := ⟨B8, P8, grown_own' HG2.out (HG6.out.trans (grown_own' (grown_trans (grown_drew _) A.gr) g8))⟩
  clear B8 P8 g8 A CC hHeld hHeld2 H0 x0 y1 HB6 HG6 hcl szU
  go_wp2
  go_ret
  exact ⟨rfl, es2, HF.out⟩
end Go.Proofs.YtknlcjhcamhfmaaGreatDoor
