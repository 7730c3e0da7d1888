/-
  What readFields takes words for: the fields that a part's verb and whom use. It touches nothing that was there.
-/
import Derived.Test.YtpceelbphpfciaaGreatDoorPrint
namespace Go.Proofs.YtpceelbphpfciaaGreatDoor
open Go.RowKit

/-- How reading a part ends. -/
def rdE (o : Option Pt) (e : Ending) : Prop := match o with
  | some p => e = .returned (.tuple #[pv p, .bool true])
  | none => ∃ p, e = .returned (.tuple #[pv p, .bool false])
theorem rdE_no {o : Option Pt} {e : Ending} (h : o = none) (p : Pt) (he : e = .returned (.tuple #[pv p, .bool false])) : rdE o e := by rw [h]; exact ⟨p, he⟩
theorem rdE_yes {o : Option Pt} {e : Ending} {p : Pt} (h : o = some p) (he : e = .returned (.tuple #[pv p, .bool true])) : rdE o e := by rw [h]; exact he
theorem rdF_len : ∀ (ks : List Nat) (ws : List (List UInt8)) (p : Pt), ¬ ws.length = ks.length → rdF ks ws p = none
  | [], [], _, h => absurd rfl h
  | [], _ :: _, _, _ => rfl
  | _ :: _, [], _, _ => rfl
  | k :: ks, x :: r, p, h => by
    simp only [rdF]
    cases rd1 k x p with
    | none => rfl
    | some q => exact rdF_len ks r q (fun e => h (by simp [e]))
theorem rdF_step {ks : List Nat} {ws : List (List UInt8)} {j k : Nat} {x : List UInt8} (hk : ks[j]? = some k) (hx : ws[j]? = some x) (p : Pt) :
    rdF (ks.drop j) (ws.drop j) p = match rd1 k x p with
      | some q => rdF (ks.drop (j + 1)) (ws.drop (j + 1)) q
      | none => none := by
  obtain ⟨h1, e1⟩ := List.getElem?_eq_some_iff.1 hk
  obtain ⟨h2, e2⟩ := List.getElem?_eq_some_iff.1 hx
  rw [List.drop_eq_getElem_cons h1, List.drop_eq_getElem_cons h2, e1, e2]
  rfl
/-- Words, in memory, from the fourth on. -/
def WAt (w : World) (b : Nat) (ws : List ByteArray) : Prop := ∀ (i : Nat) x, ws[i]? = some x → w.cell? ⟨b, 3 + i, none⟩ = some (.string x)
theorem WAt.keep {w w' : World} {b : Nat} {ws : List ByteArray} {r : Option Nat} (h : WAt w b ws) (g : w.grownBy w' r) (hr : r ≠ some b) : WAt w' b ws := fun i x hx => grown_cell g (h i x hx) hr
theorem KAt.keepR {w w' : World} {b : Nat} {ks : List Nat} {r : Option Nat} (h : KAt w b ks) (g : w.grownBy w' r) (hr : r ≠ some b) : KAt w' b ks :=
  ⟨Nat.lt_of_lt_of_le h.lt g.size, fun m k hk => ⟨grown_cell g (h.at_ m k hk).1 hr, grown_cell g (h.at_ m k hk).2.1 hr, grown_cell g (h.at_ m k hk).2.2 hr⟩⟩
theorem PAt.keepR {w w' : World} {b : Nat} {p : Pt} {r : Option Nat} (h : PAt w b p) (g : w.grownBy w' r) (hr : r ≠ some b) : PAt w' b p := grown_keep g h (fun e => hr e.symm)
/-- Eight stores into one block. -/
theorem grown_st8 {a b : World} {s : Nat} (h : a.grownBy b none) (hs : a.heap.size ≤ s) (x0 x1 x2 x3 x4 x5 x6 x7 : Value) : a.grownBy ((((((((b.setCell ⟨s, 0, none⟩ x0).setCell ⟨s, 1, none⟩ x1).setCell ⟨s, 2, none⟩ x2).setCell ⟨s, 3, none⟩ x3).setCell ⟨s, 4, none⟩ x4).setCell ⟨s, 5, none⟩ x5).setCell ⟨s, 6, none⟩ x6).setCell ⟨s, 7, none⟩ x7) none :=
  grown_own (r := some s) h (grown_trans (grown_trans (grown_trans (grown_trans (grown_trans (grown_trans (grown_trans (grown_set _ _ _ _) (grown_set _ _ _ _)) (grown_set _ _ _ _)) (grown_set _ _ _ _)) (grown_set _ _ _ _)) (grown_set _ _ _ _)) (grown_set _ _ _ _)) (grown_set _ _ _ _)) (fun _ hx => by cases hx; exact hs)
theorem LaidAt.of {w wr : World} (L : LaidAt w) (G : w.grownBy wr none) : LaidAt wr := L.keep G
set_option maxHeartbeats 8000000 in
set_option maxRecDepth 100000 in
theorem readFields_any (p : Pt) (b c : Nat) (pa : Option Addr) (ws : List ByteArray) (hpa : 0 < ws.length → pa = some ⟨b, 3, none⟩) (hsz : ∀ x ∈ ws, x.size ≤ 100) (hl : ws.length ≤ 1000) (w : World) (L : LaidAt w) (hb : b < w.heap.size) (X : WAt w b ws) :
    Calls Tryz.prog 62 #[pv p, .slice pa ws.length c] w fun e w' => rdE (rdF (kinds p.vb p.wm) (ws.map (·.data.toList)) p) e ∧ w.grownBy w' none := by
  have HL : Hid (LaidAt w) := L
  have HX : Hid (WAt w b ws) := X
  obtain ⟨res, hres⟩ : ∃ res, res = rdF (kinds p.vb p.wm) (ws.map (·.data.toList)) p := ⟨_, rfl⟩
  have HR : Hid (res = rdF (kinds p.vb p.wm) (ws.map (·.data.toList)) p) := hres
  rw [← hres]
  obtain ⟨n, hn⟩ : ∃ n, n = ws.length := ⟨_, rfl⟩
  have HN : Hid (n = ws.length) := hn
  rw [← hn] at hl hpa ⊢
  have HPA : Hid (0 < n → pa = some ⟨b, 3, none⟩) := hpa
  clear L X hres hn hpa
  unfold pv
  go_enter Tryz.func62, Tryz.ntmps62
  go_wp2_with fail
  have Aa := (PAt.new w p).keep (World.grownBy_alloc _ (.cells #[.int .u8 0, .int .u8 0, .int .u8 0, .int .i64 0, .int .u8 0, .int .u8 0, .int .u8 0, .string ⟨#[]⟩] 29) none)
  have Za : PAt ((w.alloc (.cells #[.int .u8 p.wn, .int .u8 p.vb, .int .u8 p.wm, .int .i64 p.ct, .int .u8 p.su, .int .u8 p.tr, .int .u8 p.mr, .string p.nm] 29)).alloc (.cells #[.int .u8 0, .int .u8 0, .int .u8 0, .int .i64 0, .int .u8 0, .int .u8 0, .int .u8 0, .string ⟨#[]⟩] 29)) (w.heap.size + 1) Pt.none := by
    have := alloc_at (w.alloc (.cells #[.int .u8 p.wn, .int .u8 p.vb, .int .u8 p.wm, .int .i64 p.ct, .int .u8 p.su, .int .u8 p.tr, .int .u8 p.mr, .string p.nm] 29)) #[.int .u8 0, .int .u8 0, .int .u8 0, .int .i64 0, .int .u8 0, .int .u8 0, .int .u8 0, .string ⟨#[]⟩] 29
    rw [World.size_alloc] at this
    exact this
  have Ga : w.grownBy ((w.alloc (.cells #[.int .u8 p.wn, .int .u8 p.vb, .int .u8 p.wm, .int .i64 p.ct, .int .u8 p.su, .int .u8 p.tr, .int .u8 p.mr, .string p.nm] 29)).alloc (.cells #[.int .u8 0, .int .u8 0, .int .u8 0, .int .i64 0, .int .u8 0, .int .u8 0, .int .u8 0, .string ⟨#[]⟩] 29)) none := grown_push (World.grownBy_alloc _ _ _) _
  refine (fieldsOf_any _ _ _).mono ?_
  rintro e W1 ⟨rfl, K1, g1⟩
  have A1 := Aa.keep g1
  have Z1 := Za.keep g1
  have G1 := grown_trans Ga g1
  clear Aa Za Ga g1
  rw [World.size_alloc, World.size_alloc] at K1 ⊢
  obtain ⟨ks, hks⟩ : ∃ ks, ks = kinds p.vb p.wm := ⟨_, rfl⟩
  rw [← hks] at K1 ⊢
  have HKS : Hid (ks = kinds p.vb p.wm) := hks
  have hkl : ks.length ≤ 5 := by rw [hks]; exact kinds_len _ _
  obtain ⟨nk, hnk⟩ : ∃ nk, nk = ks.length := ⟨_, rfl⟩
  have HNK : Hid (nk = ks.length) := hnk
  rw [← hnk] at hkl ⊢
  clear hks hnk
  by_cases hne : n = nk
  · subst hne
    have hb0 : ((n : Int) == (n : Int)) = true := by simp
    have hb1 : ((n : Int) != (n : Int)) = false := by simp
    go_wp2_with fail
    go_loopw [22] (fun t wr => ∃ (j : Nat) (pj : Pt), j ≤ n ∧ t = .int .i64 j ∧ PAt wr w.heap.size pj ∧ PAt wr (w.heap.size + 1) Pt.none ∧ KAt wr (w.heap.size + 1 + 1) ks ∧ res = rdF (ks.drop j) ((ws.map (·.data.toList)).drop j) pj ∧ w.grownBy wr none) (fun t _ => n - (intOf t).toNat)
    case atStart => exact ⟨0, p, Nat.zero_le _, rfl, A1, Z1, K1, by rw [HKS.out]; exact HR.out, G1⟩
    case round =>
      obtain ⟨j, pj, hj, rfl, A, Z, K, hres, G⟩ := hrel
      clear A1 Z1 K1 G1
      by_cases hlt : j < n
      · obtain rfl : pa = some ⟨b, 3, none⟩ := HPA.out (by omega)
        have hlt' : (j : Int) < (n : Int) := by omega
        have hj5 : (j : Int) < 5 := by omega
        obtain ⟨k, hk⟩ : ∃ k, ks[j]? = some k := ⟨_, List.getElem?_eq_getElem (by rw [← HNK.out]; exact hlt)⟩
        obtain ⟨x, hxj⟩ : ∃ x, ws[j]? = some x := ⟨_, List.getElem?_eq_getElem (by rw [← HN.out]; exact hlt)⟩
        have hx : x.size ≤ 100 := hsz x (List.mem_of_getElem? hxj)
        have hxm : (ws.map (·.data.toList))[j]? = some x.data.toList := by rw [List.getElem?_map, hxj]; rfl
        rw [rdF_step hk hxm] at hres
        obtain ⟨d0, d1, d2⟩ := K.at_ j k hk
        rw [Nat.mul_comm] at d0 d1 d2
        have hmem : k ∈ ks := List.mem_of_getElem? hk
        have hk4 : k ≤ 4 := by rw [HKS.out] at hmem; exact kinds_le hmem
        have HRS : Hid (res = match rd1 k x.data.toList pj with
          | some q => rdF (ks.drop (j + 1)) ((ws.map (·.data.toList)).drop (j + 1)) q
          | none => none) := hres
        have HA : Hid (PAt wr w.heap.size pj) := A
        have HZ : Hid (PAt wr (w.heap.size + 1) Pt.none) := Z
        have HK : Hid (KAt wr (w.heap.size + 1 + 1) ks) := K
        have HG : Hid (w.grownBy wr none) := G
        have XJ : Hid (ws[j]? = some x) := hxj
        have hqs : w.heap.size < wr.heap.size := block_lt A
        have hrs : w.heap.size + 1 < wr.heap.size := block_lt Z
        clear A Z K G hres hk hxj hxm hmem
        rcases (show k = 0 ∨ k = 1 ∨ k = 2 ∨ k = 3 ∨ k = 4 from by omega) with rfl | rfl | rfl | rfl | rfl
        · simp only [tf, rf] at d1 d2
          have cx : (wr.alloc (.cells #[.bool true, .func (.func 116) #[] #[], .func (.func 117) #[] #[]] 101)).cell? ⟨b, 3 + j, none⟩ = some (.string x) := grown_cell (grown_push HG.out _) (HX.out j x XJ.out) (by simp)
          have cf : (wr.alloc (.cells #[.bool true, .func (.func 116) #[] #[], .func (.func 117) #[] #[]] 101)).cell? ⟨wr.heap.size, 2, none⟩ = some (.func (.func 117) #[] #[]) := block_cell (alloc_at _ _ _) 2
          cases hrd : rd1 0 x.data.toList pj with
          | none =>
            rw [hrd] at HRS
            go_wp2_with fail
            go_region_held3 (fun w' => w'.cell? ⟨wr.heap.size, 2, none⟩ = some (.func (.func 117) #[] #[]) ∧ w'.cell? ⟨b, 3 + j, none⟩ = some (.string x)) (first | exact ⟨cf, cx⟩ | exact S3) ((go_at_call 117; refine (read0_any x hx w.heap.size pj _ (HL.out.keep (grown_trans (grown_push HG.out _) (grown_drew _))) (HA.out.keep (grown_trans (World.grownBy_alloc _ _ none) (grown_drew _)))).mono ?_; rintro e w3 ⟨he, g3⟩; rw [hrd] at he; obtain ⟨rfl, p2, A3⟩ := he; have S3 := And.intro (grown_cell g3 cf (by simp; omega)) (grown_cell g3 cx (by simp; omega))))
            have NG : wr.grownBy w3 (some w.heap.size) := grown_trans (grown_some (grown_trans (World.grownBy_alloc wr _ none) (grown_drew _)) _) g3
            have Z3 := HZ.out.keepR NG (by simp)
            have K3 := HK.out.keepR NG (by simp; omega)
            have G3 : w.grownBy w3 none := grown_own HG.out NG (fun _ e => by cases e; exact Nat.le_refl _)
            clear g3 S3 cx cf d0 d1 d2 NG
            obtain ⟨c0, c1, c2, c3, c4, c5, c6, c7⟩ := A3.cells
            obtain ⟨z0, z1, z2, z3, z4, z5, z6, z7⟩ := Z3.cells
            have zf : ∀ i, w3.frozen? ⟨w.heap.size + 1, i, none⟩ = false := block_free Z3
            simp only [Pt.none] at z0 z1 z2 z3 z4 z5 z6 z7
            have HG3 : Hid (w.grownBy w3 none) := G3
            clear A3 Z3 K3 G3
            go_wp2
            refine bodyPost_ret (v := .tuple #[.agg #[.int .u8 p2.wn, .int .u8 p2.vb, .int .u8 p2.wm, .int .i64 p2.ct, .int .u8 p2.su, .int .u8 p2.tr, .int .u8 p2.mr, .string p2.nm], .bool false]) (by simp [results, Tryz.results62, go_sem, z0, z1, z2, z3, z4, z5, z6, z7]) rfl ⟨?_, ?_⟩
            · exact rdE_no HRS.out p2 rfl
            · exact grown_st8 HG3.out (by omega) _ _ _ _ _ _ _ _
          | some p2 =>
            rw [hrd] at HRS
            go_wp2_with fail
            go_region_held3 (fun w' => w'.cell? ⟨wr.heap.size, 2, none⟩ = some (.func (.func 117) #[] #[]) ∧ w'.cell? ⟨b, 3 + j, none⟩ = some (.string x)) (first | exact ⟨cf, cx⟩ | exact S3) ((go_at_call 117; refine (read0_any x hx w.heap.size pj _ (HL.out.keep (grown_trans (grown_push HG.out _) (grown_drew _))) (HA.out.keep (grown_trans (World.grownBy_alloc _ _ none) (grown_drew _)))).mono ?_; rintro e w3 ⟨he, g3⟩; rw [hrd] at he; obtain ⟨rfl, A3⟩ := he; have S3 := And.intro (grown_cell g3 cf (by simp; omega)) (grown_cell g3 cx (by simp; omega))))
            have NG : wr.grownBy w3 (some w.heap.size) := grown_trans (grown_some (grown_trans (World.grownBy_alloc wr _ none) (grown_drew _)) _) g3
            have Z3 := HZ.out.keepR NG (by simp)
            have K3 := HK.out.keepR NG (by simp; omega)
            have G3 : w.grownBy w3 none := grown_own HG.out NG (fun _ e => by cases e; exact Nat.le_refl _)
            clear g3 S3 cx cf d0 d1 d2 NG
            have HA3 : Hid (PAt w3 w.heap.size p2) := A3
            have HZ3 : Hid (PAt w3 (w.heap.size + 1) Pt.none) := Z3
            have HK3 : Hid (KAt w3 (w.heap.size + 1 + 1) ks) := K3
            have HG3 : Hid (w.grownBy w3 none) := G3
            clear A3 Z3 K3 G3
            go_wp2
            go_roundw
            case rel => exact ⟨j + 1, p2, by omega, by go_num, HA3.out, HZ3.out, HK3.out, HRS.out, HG3.out⟩
            case measure => simp [intOf]; omega
        · simp only [tf, rf] at d1 d2
          have cx : (wr.alloc (.cells #[.bool true, .func (.func 118) #[] #[], .func (.func 119) #[] #[]] 101)).cell? ⟨b, 3 + j, none⟩ = some (.string x) := grown_cell (grown_push HG.out _) (HX.out j x XJ.out) (by simp)
          have cf : (wr.alloc (.cells #[.bool true, .func (.func 118) #[] #[], .func (.func 119) #[] #[]] 101)).cell? ⟨wr.heap.size, 2, none⟩ = some (.func (.func 119) #[] #[]) := block_cell (alloc_at _ _ _) 2
          cases hrd : rd1 1 x.data.toList pj with
          | none =>
            rw [hrd] at HRS
            go_wp2_with fail
            go_region_held3 (fun w' => w'.cell? ⟨wr.heap.size, 2, none⟩ = some (.func (.func 119) #[] #[]) ∧ w'.cell? ⟨b, 3 + j, none⟩ = some (.string x)) (first | exact ⟨cf, cx⟩ | exact S3) ((go_at_call 119; refine (read1_any x w.heap.size pj _ (HL.out.keep (grown_trans (grown_push HG.out _) (grown_drew _))) (HA.out.keep (grown_trans (World.grownBy_alloc _ _ none) (grown_drew _)))).mono ?_; rintro e w3 ⟨he, g3⟩; rw [hrd] at he; obtain ⟨rfl, p2, A3⟩ := he; have S3 := And.intro (grown_cell g3 cf (by simp; omega)) (grown_cell g3 cx (by simp; omega))))
            have NG : wr.grownBy w3 (some w.heap.size) := grown_trans (grown_some (grown_trans (World.grownBy_alloc wr _ none) (grown_drew _)) _) g3
            have Z3 := HZ.out.keepR NG (by simp)
            have K3 := HK.out.keepR NG (by simp; omega)
            have G3 : w.grownBy w3 none := grown_own HG.out NG (fun _ e => by cases e; exact Nat.le_refl _)
            clear g3 S3 cx cf d0 d1 d2 NG
            obtain ⟨c0, c1, c2, c3, c4, c5, c6, c7⟩ := A3.cells
            obtain ⟨z0, z1, z2, z3, z4, z5, z6, z7⟩ := Z3.cells
            have zf : ∀ i, w3.frozen? ⟨w.heap.size + 1, i, none⟩ = false := block_free Z3
            simp only [Pt.none] at z0 z1 z2 z3 z4 z5 z6 z7
            have HG3 : Hid (w.grownBy w3 none) := G3
            clear A3 Z3 K3 G3
            go_wp2
            refine bodyPost_ret (v := .tuple #[.agg #[.int .u8 p2.wn, .int .u8 p2.vb, .int .u8 p2.wm, .int .i64 p2.ct, .int .u8 p2.su, .int .u8 p2.tr, .int .u8 p2.mr, .string p2.nm], .bool false]) (by simp [results, Tryz.results62, go_sem, z0, z1, z2, z3, z4, z5, z6, z7]) rfl ⟨?_, ?_⟩
            · exact rdE_no HRS.out p2 rfl
            · exact grown_st8 HG3.out (by omega) _ _ _ _ _ _ _ _
          | some p2 =>
            rw [hrd] at HRS
            go_wp2_with fail
            go_region_held3 (fun w' => w'.cell? ⟨wr.heap.size, 2, none⟩ = some (.func (.func 119) #[] #[]) ∧ w'.cell? ⟨b, 3 + j, none⟩ = some (.string x)) (first | exact ⟨cf, cx⟩ | exact S3) ((go_at_call 119; refine (read1_any x w.heap.size pj _ (HL.out.keep (grown_trans (grown_push HG.out _) (grown_drew _))) (HA.out.keep (grown_trans (World.grownBy_alloc _ _ none) (grown_drew _)))).mono ?_; rintro e w3 ⟨he, g3⟩; rw [hrd] at he; obtain ⟨rfl, A3⟩ := he; have S3 := And.intro (grown_cell g3 cf (by simp; omega)) (grown_cell g3 cx (by simp; omega))))
            have NG : wr.grownBy w3 (some w.heap.size) := grown_trans (grown_some (grown_trans (World.grownBy_alloc wr _ none) (grown_drew _)) _) g3
            have Z3 := HZ.out.keepR NG (by simp)
            have K3 := HK.out.keepR NG (by simp; omega)
            have G3 : w.grownBy w3 none := grown_own HG.out NG (fun _ e => by cases e; exact Nat.le_refl _)
            clear g3 S3 cx cf d0 d1 d2 NG
            have HA3 : Hid (PAt w3 w.heap.size p2) := A3
            have HZ3 : Hid (PAt w3 (w.heap.size + 1) Pt.none) := Z3
            have HK3 : Hid (KAt w3 (w.heap.size + 1 + 1) ks) := K3
            have HG3 : Hid (w.grownBy w3 none) := G3
            clear A3 Z3 K3 G3
            go_wp2
            go_roundw
            case rel => exact ⟨j + 1, p2, by omega, by go_num, HA3.out, HZ3.out, HK3.out, HRS.out, HG3.out⟩
            case measure => simp [intOf]; omega
        · simp only [tf, rf] at d1 d2
          have cx : (wr.alloc (.cells #[.bool true, .func (.func 120) #[] #[], .func (.func 121) #[] #[]] 101)).cell? ⟨b, 3 + j, none⟩ = some (.string x) := grown_cell (grown_push HG.out _) (HX.out j x XJ.out) (by simp)
          have cf : (wr.alloc (.cells #[.bool true, .func (.func 120) #[] #[], .func (.func 121) #[] #[]] 101)).cell? ⟨wr.heap.size, 2, none⟩ = some (.func (.func 121) #[] #[]) := block_cell (alloc_at _ _ _) 2
          cases hrd : rd1 2 x.data.toList pj with
          | none =>
            rw [hrd] at HRS
            go_wp2_with fail
            go_region_held3 (fun w' => w'.cell? ⟨wr.heap.size, 2, none⟩ = some (.func (.func 121) #[] #[]) ∧ w'.cell? ⟨b, 3 + j, none⟩ = some (.string x)) (first | exact ⟨cf, cx⟩ | exact S3) ((go_at_call 121; refine (read2_any x w.heap.size pj _ (HL.out.keep (grown_trans (grown_push HG.out _) (grown_drew _))) (HA.out.keep (grown_trans (World.grownBy_alloc _ _ none) (grown_drew _)))).mono ?_; rintro e w3 ⟨he, g3⟩; rw [hrd] at he; obtain ⟨rfl, p2, A3⟩ := he; have S3 := And.intro (grown_cell g3 cf (by simp; omega)) (grown_cell g3 cx (by simp; omega))))
            have NG : wr.grownBy w3 (some w.heap.size) := grown_trans (grown_some (grown_trans (World.grownBy_alloc wr _ none) (grown_drew _)) _) g3
            have Z3 := HZ.out.keepR NG (by simp)
            have K3 := HK.out.keepR NG (by simp; omega)
            have G3 : w.grownBy w3 none := grown_own HG.out NG (fun _ e => by cases e; exact Nat.le_refl _)
            clear g3 S3 cx cf d0 d1 d2 NG
            obtain ⟨c0, c1, c2, c3, c4, c5, c6, c7⟩ := A3.cells
            obtain ⟨z0, z1, z2, z3, z4, z5, z6, z7⟩ := Z3.cells
            have zf : ∀ i, w3.frozen? ⟨w.heap.size + 1, i, none⟩ = false := block_free Z3
            simp only [Pt.none] at z0 z1 z2 z3 z4 z5 z6 z7
            have HG3 : Hid (w.grownBy w3 none) := G3
            clear A3 Z3 K3 G3
            go_wp2
            refine bodyPost_ret (v := .tuple #[.agg #[.int .u8 p2.wn, .int .u8 p2.vb, .int .u8 p2.wm, .int .i64 p2.ct, .int .u8 p2.su, .int .u8 p2.tr, .int .u8 p2.mr, .string p2.nm], .bool false]) (by simp [results, Tryz.results62, go_sem, z0, z1, z2, z3, z4, z5, z6, z7]) rfl ⟨?_, ?_⟩
            · exact rdE_no HRS.out p2 rfl
            · exact grown_st8 HG3.out (by omega) _ _ _ _ _ _ _ _
          | some p2 =>
            rw [hrd] at HRS
            go_wp2_with fail
            go_region_held3 (fun w' => w'.cell? ⟨wr.heap.size, 2, none⟩ = some (.func (.func 121) #[] #[]) ∧ w'.cell? ⟨b, 3 + j, none⟩ = some (.string x)) (first | exact ⟨cf, cx⟩ | exact S3) ((go_at_call 121; refine (read2_any x w.heap.size pj _ (HL.out.keep (grown_trans (grown_push HG.out _) (grown_drew _))) (HA.out.keep (grown_trans (World.grownBy_alloc _ _ none) (grown_drew _)))).mono ?_; rintro e w3 ⟨he, g3⟩; rw [hrd] at he; obtain ⟨rfl, A3⟩ := he; have S3 := And.intro (grown_cell g3 cf (by simp; omega)) (grown_cell g3 cx (by simp; omega))))
            have NG : wr.grownBy w3 (some w.heap.size) := grown_trans (grown_some (grown_trans (World.grownBy_alloc wr _ none) (grown_drew _)) _) g3
            have Z3 := HZ.out.keepR NG (by simp)
            have K3 := HK.out.keepR NG (by simp; omega)
            have G3 : w.grownBy w3 none := grown_own HG.out NG (fun _ e => by cases e; exact Nat.le_refl _)
            clear g3 S3 cx cf d0 d1 d2 NG
            have HA3 : Hid (PAt w3 w.heap.size p2) := A3
            have HZ3 : Hid (PAt w3 (w.heap.size + 1) Pt.none) := Z3
            have HK3 : Hid (KAt w3 (w.heap.size + 1 + 1) ks) := K3
            have HG3 : Hid (w.grownBy w3 none) := G3
            clear A3 Z3 K3 G3
            go_wp2
            go_roundw
            case rel => exact ⟨j + 1, p2, by omega, by go_num, HA3.out, HZ3.out, HK3.out, HRS.out, HG3.out⟩
            case measure => simp [intOf]; omega
        · simp only [tf, rf] at d1 d2
          have cx : (wr.alloc (.cells #[.bool true, .func (.func 122) #[] #[], .func (.func 123) #[] #[]] 101)).cell? ⟨b, 3 + j, none⟩ = some (.string x) := grown_cell (grown_push HG.out _) (HX.out j x XJ.out) (by simp)
          have cf : (wr.alloc (.cells #[.bool true, .func (.func 122) #[] #[], .func (.func 123) #[] #[]] 101)).cell? ⟨wr.heap.size, 2, none⟩ = some (.func (.func 123) #[] #[]) := block_cell (alloc_at _ _ _) 2
          cases hrd : rd1 3 x.data.toList pj with
          | none =>
            rw [hrd] at HRS
            go_wp2_with fail
            go_region_held3 (fun w' => w'.cell? ⟨wr.heap.size, 2, none⟩ = some (.func (.func 123) #[] #[]) ∧ w'.cell? ⟨b, 3 + j, none⟩ = some (.string x)) (first | exact ⟨cf, cx⟩ | exact S3) ((go_at_call 123; refine (read3_any x hx w.heap.size pj _ (HL.out.keep (grown_trans (grown_push HG.out _) (grown_drew _))) (HA.out.keep (grown_trans (World.grownBy_alloc _ _ none) (grown_drew _)))).mono ?_; rintro e w3 ⟨he, g3⟩; rw [hrd] at he; obtain ⟨rfl, p2, A3⟩ := he; have S3 := And.intro (grown_cell g3 cf (by simp; omega)) (grown_cell g3 cx (by simp; omega))))
            have NG : wr.grownBy w3 (some w.heap.size) := grown_trans (grown_some (grown_trans (World.grownBy_alloc wr _ none) (grown_drew _)) _) g3
            have Z3 := HZ.out.keepR NG (by simp)
            have K3 := HK.out.keepR NG (by simp; omega)
            have G3 : w.grownBy w3 none := grown_own HG.out NG (fun _ e => by cases e; exact Nat.le_refl _)
            clear g3 S3 cx cf d0 d1 d2 NG
            obtain ⟨c0, c1, c2, c3, c4, c5, c6, c7⟩ := A3.cells
            obtain ⟨z0, z1, z2, z3, z4, z5, z6, z7⟩ := Z3.cells
            have zf : ∀ i, w3.frozen? ⟨w.heap.size + 1, i, none⟩ = false := block_free Z3
            simp only [Pt.none] at z0 z1 z2 z3 z4 z5 z6 z7
            have HG3 : Hid (w.grownBy w3 none) := G3
            clear A3 Z3 K3 G3
            go_wp2
            refine bodyPost_ret (v := .tuple #[.agg #[.int .u8 p2.wn, .int .u8 p2.vb, .int .u8 p2.wm, .int .i64 p2.ct, .int .u8 p2.su, .int .u8 p2.tr, .int .u8 p2.mr, .string p2.nm], .bool false]) (by simp [results, Tryz.results62, go_sem, z0, z1, z2, z3, z4, z5, z6, z7]) rfl ⟨?_, ?_⟩
            · exact rdE_no HRS.out p2 rfl
            · exact grown_st8 HG3.out (by omega) _ _ _ _ _ _ _ _
          | some p2 =>
            rw [hrd] at HRS
            go_wp2_with fail
            go_region_held3 (fun w' => w'.cell? ⟨wr.heap.size, 2, none⟩ = some (.func (.func 123) #[] #[]) ∧ w'.cell? ⟨b, 3 + j, none⟩ = some (.string x)) (first | exact ⟨cf, cx⟩ | exact S3) ((go_at_call 123; refine (read3_any x hx w.heap.size pj _ (HL.out.keep (grown_trans (grown_push HG.out _) (grown_drew _))) (HA.out.keep (grown_trans (World.grownBy_alloc _ _ none) (grown_drew _)))).mono ?_; rintro e w3 ⟨he, g3⟩; rw [hrd] at he; obtain ⟨rfl, A3⟩ := he; have S3 := And.intro (grown_cell g3 cf (by simp; omega)) (grown_cell g3 cx (by simp; omega))))
            have NG : wr.grownBy w3 (some w.heap.size) := grown_trans (grown_some (grown_trans (World.grownBy_alloc wr _ none) (grown_drew _)) _) g3
            have Z3 := HZ.out.keepR NG (by simp)
            have K3 := HK.out.keepR NG (by simp; omega)
            have G3 : w.grownBy w3 none := grown_own HG.out NG (fun _ e => by cases e; exact Nat.le_refl _)
            clear g3 S3 cx cf d0 d1 d2 NG
            have HA3 : Hid (PAt w3 w.heap.size p2) := A3
            have HZ3 : Hid (PAt w3 (w.heap.size + 1) Pt.none) := Z3
            have HK3 : Hid (KAt w3 (w.heap.size + 1 + 1) ks) := K3
            have HG3 : Hid (w.grownBy w3 none) := G3
            clear A3 Z3 K3 G3
            go_wp2
            go_roundw
            case rel => exact ⟨j + 1, p2, by omega, by go_num, HA3.out, HZ3.out, HK3.out, HRS.out, HG3.out⟩
            case measure => simp [intOf]; omega
        · simp only [tf, rf] at d1 d2
          have cx : (wr.alloc (.cells #[.bool true, .func (.func 124) #[] #[], .func (.func 125) #[] #[]] 101)).cell? ⟨b, 3 + j, none⟩ = some (.string x) := grown_cell (grown_push HG.out _) (HX.out j x XJ.out) (by simp)
          have cf : (wr.alloc (.cells #[.bool true, .func (.func 124) #[] #[], .func (.func 125) #[] #[]] 101)).cell? ⟨wr.heap.size, 2, none⟩ = some (.func (.func 125) #[] #[]) := block_cell (alloc_at _ _ _) 2
          cases hrd : rd1 4 x.data.toList pj with
          | none =>
            rw [hrd] at HRS
            go_wp2_with fail
            go_region_held3 (fun w' => w'.cell? ⟨wr.heap.size, 2, none⟩ = some (.func (.func 125) #[] #[]) ∧ w'.cell? ⟨b, 3 + j, none⟩ = some (.string x)) (first | exact ⟨cf, cx⟩ | exact S3) ((go_at_call 125; refine (read4_any x hx w.heap.size pj _ (HA.out.keep (grown_trans (World.grownBy_alloc _ _ none) (grown_drew _)))).mono ?_; rintro e w3 ⟨he, g3⟩; rw [hrd] at he; obtain ⟨rfl, p2, A3⟩ := he; have S3 := And.intro (grown_cell g3 cf (by simp; omega)) (grown_cell g3 cx (by simp; omega))))
            have NG : wr.grownBy w3 (some w.heap.size) := grown_trans (grown_some (grown_trans (World.grownBy_alloc wr _ none) (grown_drew _)) _) g3
            have Z3 := HZ.out.keepR NG (by simp)
            have K3 := HK.out.keepR NG (by simp; omega)
            have G3 : w.grownBy w3 none := grown_own HG.out NG (fun _ e => by cases e; exact Nat.le_refl _)
            clear g3 S3 cx cf d0 d1 d2 NG
            obtain ⟨c0, c1, c2, c3, c4, c5, c6, c7⟩ := A3.cells
            obtain ⟨z0, z1, z2, z3, z4, z5, z6, z7⟩ := Z3.cells
            have zf : ∀ i, w3.frozen? ⟨w.heap.size + 1, i, none⟩ = false := block_free Z3
            simp only [Pt.none] at z0 z1 z2 z3 z4 z5 z6 z7
            have HG3 : Hid (w.grownBy w3 none) := G3
            clear A3 Z3 K3 G3
            go_wp2
            refine bodyPost_ret (v := .tuple #[.agg #[.int .u8 p2.wn, .int .u8 p2.vb, .int .u8 p2.wm, .int .i64 p2.ct, .int .u8 p2.su, .int .u8 p2.tr, .int .u8 p2.mr, .string p2.nm], .bool false]) (by simp [results, Tryz.results62, go_sem, z0, z1, z2, z3, z4, z5, z6, z7]) rfl ⟨?_, ?_⟩
            · exact rdE_no HRS.out p2 rfl
            · exact grown_st8 HG3.out (by omega) _ _ _ _ _ _ _ _
          | some p2 =>
            rw [hrd] at HRS
            go_wp2_with fail
            go_region_held3 (fun w' => w'.cell? ⟨wr.heap.size, 2, none⟩ = some (.func (.func 125) #[] #[]) ∧ w'.cell? ⟨b, 3 + j, none⟩ = some (.string x)) (first | exact ⟨cf, cx⟩ | exact S3) ((go_at_call 125; refine (read4_any x hx w.heap.size pj _ (HA.out.keep (grown_trans (World.grownBy_alloc _ _ none) (grown_drew _)))).mono ?_; rintro e w3 ⟨he, g3⟩; rw [hrd] at he; obtain ⟨rfl, A3⟩ := he; have S3 := And.intro (grown_cell g3 cf (by simp; omega)) (grown_cell g3 cx (by simp; omega))))
            have NG : wr.grownBy w3 (some w.heap.size) := grown_trans (grown_some (grown_trans (World.grownBy_alloc wr _ none) (grown_drew _)) _) g3
            have Z3 := HZ.out.keepR NG (by simp)
            have K3 := HK.out.keepR NG (by simp; omega)
            have G3 : w.grownBy w3 none := grown_own HG.out NG (fun _ e => by cases e; exact Nat.le_refl _)
            clear g3 S3 cx cf d0 d1 d2 NG
            have HA3 : Hid (PAt w3 w.heap.size p2) := A3
            have HZ3 : Hid (PAt w3 (w.heap.size + 1) Pt.none) := Z3
            have HK3 : Hid (KAt w3 (w.heap.size + 1 + 1) ks) := K3
            have HG3 : Hid (w.grownBy w3 none) := G3
            clear A3 Z3 K3 G3
            go_wp2
            go_roundw
            case rel => exact ⟨j + 1, p2, by omega, by go_num, HA3.out, HZ3.out, HK3.out, HRS.out, HG3.out⟩
            case measure => simp [intOf]; omega
      · have hjn : j = n := by omega
        have HE : Hid (res = some pj) := by
          show _ = _
          rw [hres, List.drop_eq_nil_of_le (by rw [← HNK.out]; omega), List.drop_eq_nil_of_le (by rw [List.length_map, ← HN.out]; omega)]
          rfl
        have hnl : ¬ (j : Int) < (n : Int) := by omega
        obtain ⟨c0, c1, c2, c3, c4, c5, c6, c7⟩ := A.cells
        obtain ⟨z0, z1, z2, z3, z4, z5, z6, z7⟩ := Z.cells
        have zf : ∀ i, wr.frozen? ⟨w.heap.size + 1, i, none⟩ = false := block_free Z
        simp only [Pt.none] at z0 z1 z2 z3 z4 z5 z6 z7
        have HG : Hid (w.grownBy wr none) := G
        clear A Z K G hres
        go_wp2
        refine bodyPost_ret (v := .tuple #[.agg #[.int .u8 pj.wn, .int .u8 pj.vb, .int .u8 pj.wm, .int .i64 pj.ct, .int .u8 pj.su, .int .u8 pj.tr, .int .u8 pj.mr, .string pj.nm], .bool true]) (by simp [results, Tryz.results62, go_sem, z0, z1, z2, z3, z4, z5, z6, z7]) rfl ⟨?_, ?_⟩
        · exact rdE_yes HE.out rfl
        · exact grown_st8 HG.out (by omega) _ _ _ _ _ _ _ _
  · have hb0 : ((n : Int) == (nk : Int)) = false := by simp; omega
    have hb1 : ((n : Int) != (nk : Int)) = true := by simp; omega
    have HE : Hid (res = none) := by
      show _ = _
      rw [HR.out]
      exact rdF_len _ _ _ (by rw [List.length_map, ← HN.out, ← HKS.out, ← HNK.out]; exact hne)
    obtain ⟨c0, c1, c2, c3, c4, c5, c6, c7⟩ := A1.cells
    obtain ⟨z0, z1, z2, z3, z4, z5, z6, z7⟩ := Z1.cells
    have zf : ∀ i, W1.frozen? ⟨w.heap.size + 1, i, none⟩ = false := block_free Z1
    simp only [Pt.none] at z0 z1 z2 z3 z4 z5 z6 z7
    have HG : Hid (w.grownBy W1 none) := G1
    clear A1 Z1 K1 G1 hne
    go_wp2
    refine bodyPost_ret (v := .tuple #[.agg #[.int .u8 p.wn, .int .u8 p.vb, .int .u8 p.wm, .int .i64 p.ct, .int .u8 p.su, .int .u8 p.tr, .int .u8 p.mr, .string p.nm], .bool false]) (by simp [results, Tryz.results62, go_sem, z0, z1, z2, z3, z4, z5, z6, z7]) rfl ⟨?_, ?_⟩
    · exact rdE_no HE.out p rfl
    · exact grown_st8 HG.out (by omega) _ _ _ _ _ _ _ _
end Go.Proofs.YtpceelbphpfciaaGreatDoor
