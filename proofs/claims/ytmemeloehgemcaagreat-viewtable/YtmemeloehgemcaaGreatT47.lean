/-
  ViewTable: features hang on the table alone.
  ViewNil: what is answered of no book.
  Lists of numbers, read as data: where they lie, how long they may be; numbers of 64 bits.
-/
import Derived.Test.YtmemeloehgemcaaGreatT46
import Derived.Test.YtmemeloehgemcaaGreatT34
import Derived.Deep.CutBlock
import Derived.BigQuiet
import Derived.Test.YtmemeloehgemcaaGreatT44
import Derived.Test.YtmemeloehgemcaaGreatT37
import Derived.ChangeSlices
import Derived.ProofKit
import Derived.OpenShut
import Derived.ChangeOld
import Derived.ChangeAt
import Derived.Deep.Slices
import Derived.SizedLaws
namespace Go.Proofs.YtmemeloehgemcaaGreat
open Go.RowKit Go.Shelf

set_option maxRecDepth 100000 in
set_option maxHeartbeats 4000000 in
theorem viewTable_any (vc vm vt vo : Value) (op : Bool) (cs : List Ent) (ms : List Mk) (ts : List Th) (k : Int) (os : List Int) (w : World) (FI : FiA w vc vm cs ms) (A : thR.At w vt ts) (hc : ∃ q c, vt = .slice q ts.length c ∧ ts.length ≤ c) (O : IntsB w vo os) : Calls Tryz.prog 7 #[.agg #[vc, vm, .bool op], vt, .int .i64 k, vo] w fun e w' => e = .returned (.bool true) ∧ w.grownBy w' none := by
  obtain ⟨pc, kc, pm, km, rfl, rfl⟩ := FI.forms
  obtain ⟨pt, ct, rfl, hcap⟩ := hc
  obtain ⟨po, co, rfl⟩ := O.form
  obtain ⟨i3, hi3, hz0, hz1, hz2⟩ := info_parts Tryz.linfo3
  obtain ⟨iT, hiT, hT0, hT1, hT2⟩ := info_parts Tryz.linfoT
  have Hcap : Hid (ts.length ≤ ct) := hcap
  obtain ⟨W, hW⟩ : ∃ W, W = w.alloc (.cells #[.slice pc cs.length kc, .slice pm ms.length km, .bool op] 25) := ⟨_, rfl⟩
  have HG : Hid (w.grownBy W none) := by rw [hW]; exact World.grownBy_alloc _ _ none
  have H0 : Hid (W.heap[w.heap.size]? = some (.cells #[.slice pc cs.length kc, .slice pm ms.length km, .bool op] 25 (0, 0))) := by rw [hW]; exact alloc_at _ _ _
  have HF : Hid (FiA W (.slice pc cs.length kc) (.slice pm ms.length km) cs ms ∧ thR.At W (.slice pt ts.length ct) ts) := ⟨FI.keep HG.out, A.keep HG.out⟩
  have HO : Hid (IntsB w (.slice po os.length co) os) := O
  clear FI A hcap O
  go_enter Tryz.func7, Tryz.ntmps7
  go_upto_region 1 with fail
  rw [← hW]
  obtain ⟨b0, hb0⟩ : ∃ b0, b0 = w.heap.size := ⟨_, rfl⟩
  rw [← hb0] at H0 ⊢
  clear hW hb0
  have C1 := vlives_any W
  go_wp2_with fail
  refine C1.mono ?_
  rintro e1 w1 ⟨rfl, g1⟩
  have HG1 : Hid (w.grownBy w1 none) := grown_trans HG.out g1
  have H1 : Hid (w1.heap[b0]? = some (.cells #[.slice pc cs.length kc, .slice pm ms.length km, .bool op] 25 (0, 0))) := grown_keep g1 H0.out (by simp)
  have C2 := alone_any _ _ _ op cs ms ts w1 (HF.out.1.keep g1) (HF.out.2.keep g1) ⟨_, _, rfl, Hcap.out⟩
  clear C1 g1 H0 HF HG
  have f0 : w1.cell? ⟨b0, 0, none⟩ = some (.slice pc cs.length kc) := (block_cell H1.out 0).trans rfl
  have f1 : w1.cell? ⟨b0, 1, none⟩ = some (.slice pm ms.length km) := (block_cell H1.out 1).trans rfl
  have f2 : w1.cell? ⟨b0, 2, none⟩ = some (.bool op) := (block_cell H1.out 2).trans rfl
  go_wp2_with fail
  refine C2.mono ?_
  rintro e2 w2 ⟨g2, h2⟩
  have HG2 : Hid (w.grownBy w2 none) := grown_trans HG1.out g2
  clear C2 g2 H1 f0 f1 f2
  obtain ⟨base, hbase⟩ : ∃ base, base = w1.heap.size := ⟨_, rfl⟩
  rw [← hbase] at h2
  clear hbase HG1
  rcases h2 with ⟨bp, q, m, c, rfl⟩ | ⟨b, q, c, es, p, ok, rfl, h2⟩
  · go_wp2_with fail
    go_ret
    exact ⟨rfl, HG2.out⟩
  · have HAl : Hid (AlR w2 base b (.slice q ts.length c) (.slice pt ts.length ct) ts es p ok) := h2
    obtain ⟨R, hR⟩ := h2.tab
    have HR : Hid (Tab (es.length : Int) (atC p es) ts (prtF (pfB p es) ts) R) := hR
    obtain ⟨us, hus⟩ : ∃ us, us = ts.map (rkT (pkN k 1000) ts) := ⟨_, rfl⟩
    obtain ⟨Q, hQ⟩ : ∃ Q, TrS p es id ts us R Q := TrS.of (by rw [hus]; exact ranked_turned _ hR) hR (by have := h2.few; omega) h2.vk
    have HQ : Hid (TrS p es id ts us R Q) := hQ
    have C3 := ranked_any _ ts k w2 h2.th h2.few
    rw [← hus] at C3
    obtain ⟨S, hS⟩ : ∃ S, S = (stU R (prtF (pfB p es) ts) 5).map Se.s := ⟨_, rfl⟩
    have HS : Hid (S = (stU R (prtF (pfB p es) ts) 5).map Se.s ∧ S.length ≤ 320 ∧ ts.length ≤ 60) := ⟨hS, by rw [hS, List.length_map]; exact st_few hR (h2.inn.few4 (vkE_of h2.vk).1) 5, h2.few⟩
    obtain ⟨F, hF⟩ : ∃ F, F = bhL R (mfB p) ts (prtF (pfB p es) ts) 6 := ⟨_, rfl⟩
    have HFe : Hid (F = bhL R (mfB p) ts (prtF (pfB p es) ts) 6 ∧ F.length = ts.length) := ⟨hF, by rw [hF, bhL_len]⟩
    have HFo : Hid (FOwn w2 base (.slice q ts.length c) F) := by
      have := h2.fo
      rw [vBh_is h2.vk (by decide) hR, ← hF] at this
      exact this
    clear h2 hR hus hQ hS hF
    go_wp2_with fail
    refine C3.mono ?_
    rintro e3 w3 ⟨v3, rfl, o3, g3⟩
    obtain ⟨p3, c3, ev3, hc3⟩ := own_cap o3
    subst ev3
    have HG3 : Hid (w.grownBy w3 none) := grown_trans HG2.out g3
    have HU3 : Hid (thR.At w3 (.slice p3 us.length c3) us ∧ us.length ≤ c3 ∧ us.length ≤ 60) := ⟨RecT.Own.at o3, hc3, by rw [HQ.out.t.len]; exact HS.out.2.2⟩
    have HAl3 : Hid (AlR w3 base b (.slice q ts.length c) (.slice pt ts.length ct) ts es p ok ∧ FOwn w3 base (.slice q ts.length c) F) := ⟨HAl.out.keep g3, own_grow HFo.out g3⟩
    clear C3 o3 g3 hc3 HAl HFo HG2
    have C4 := of_turned HQ.out HAl3.out.1.bk HU3.out.1 rfl ⟨_, _, rfl, HU3.out.2.1⟩
    rw [HQ.out.same, ← HFe.out.1] at C4
    go_wp2_with fail
    refine C4.mono ?_
    rintro e4 w4 ⟨p4, c4, rfl, g4, o4⟩
    have hul : us.length = ts.length := HQ.out.t.len
    have HG4 : Hid (w.grownBy w4 none) := grown_trans HG3.out g4
    have HU4 : Hid (thR.At w4 (.slice p3 us.length c3) us ∧ us.length ≤ c3) := ⟨HU3.out.1.keep g4, HU3.out.2.1⟩
    have HAl4 : Hid (AlR w4 base b (.slice q ts.length c) (.slice pt ts.length ct) ts es p ok ∧ FOwn w4 base (.slice q ts.length c) F ∧ feR.At w4 (.slice p4 us.length c4) F) := ⟨HAl3.out.1.keep g4, own_grow HAl3.out.2 g4, RecT.Own.at o4⟩
    clear C4 o4 g4 HAl3 HU3 HG3 hul
    have hid : TrS p es id ts ts R R := TrS.self HR.out HAl4.out.1.vk
    have C5 := steps_turned hid HAl4.out.1.bk HAl4.out.1.th rfl ⟨_, _, rfl, Hcap.out⟩ HS.out.1.symm rfl
    have C6 : Hid (∀ X, w4.grownBy X none → Calls Tryz.prog 27 #[.pointer (some ⟨b, 0, none⟩), .slice p3 us.length c3] X fun e w' => ∃ q c, e = .returned (.tuple #[.slice q S.length c, .int .i64 0]) ∧ X.grownBy w' none ∧ sdR.At w' (.slice q S.length c) S) := fun X g => steps_turned HQ.out (HAl4.out.1.bk.keep g) (HU4.out.1.keep g) rfl ⟨_, _, rfl, HU4.out.2⟩ (by rw [HQ.out.stay]; exact HS.out.1.symm) rfl
    clear hid
    go_wp2_with fail
    refine C5.mono ?_
    rintro e5 w5 ⟨p5, c5, rfl, g5, o5⟩
    have HG5 : Hid (w.grownBy w5 none) := grown_trans HG4.out g5
    have HAl5 : Hid (AlR w5 base b (.slice q ts.length c) (.slice pt ts.length ct) ts es p ok ∧ FOwn w5 base (.slice q ts.length c) F ∧ feR.At w5 (.slice p4 us.length c4) F ∧ sdR.At w5 (.slice p5 S.length c5) S) := ⟨HAl4.out.1.keep g5, own_grow HAl4.out.2.1 g5, HAl4.out.2.2.keep g5, o5⟩
    have C7 := C6.out w5 g5
    clear C5 o5 g5 C6 HAl4 HU4 HG4
    go_wp2_with fail
    refine C7.mono ?_
    rintro e6 w6 ⟨p6, c6, rfl, g6, o6⟩
    have HG6 : Hid (w.grownBy w6 none) := grown_trans HG5.out g6
    have HAl6 : Hid (AlR w6 base b (.slice q ts.length c) (.slice pt ts.length ct) ts es p ok ∧ FOwn w6 base (.slice q ts.length c) F ∧ feR.At w6 (.slice p4 us.length c4) F ∧ sdR.At w6 (.slice p5 S.length c5) S ∧ sdR.At w6 (.slice p6 S.length c6) S) := ⟨HAl5.out.1.keep g6, own_grow HAl5.out.2.1 g6, HAl5.out.2.2.1.keep g6, HAl5.out.2.2.2.keep g6, o6⟩
    clear C7 o6 g6 HAl5 HG5
    have C8 := sameFe_eq _ _ F w6 (RecT.Own.at HAl6.out.2.1) HAl6.out.2.2.1 (by rw [HFe.out.2]; exact Nat.le_trans HS.out.2.2 (by decide))
    go_wp2_with fail
    refine C8.mono ?_
    rintro e7 w7 ⟨rfl, g7⟩
    have HG7 : Hid (w.grownBy w7 none) := grown_trans HG6.out g7
    have HAl7 : Hid (AlR w7 base b (.slice q ts.length c) (.slice pt ts.length ct) ts es p ok ∧ FOwn w7 base (.slice q ts.length c) F ∧ sdR.At w7 (.slice p5 S.length c5) S ∧ sdR.At w7 (.slice p6 S.length c6) S) := ⟨HAl6.out.1.keep g7, own_grow HAl6.out.2.1 g7, HAl6.out.2.2.2.1.keep g7, HAl6.out.2.2.2.2.keep g7⟩
    have C9 := sameSd_eq _ _ S w7 HAl7.out.2.2.1 HAl7.out.2.2.2 (Nat.le_trans HS.out.2.1 (by decide))
    clear C8 g7 HAl6 HG6
    go_wp2_with fail
    refine C9.mono ?_
    rintro e8 w8 ⟨rfl, g8⟩
    have HG8 : Hid (w.grownBy w8 none) := grown_trans HG7.out g8
    have HAl8 : Hid (AlR w8 base b (.slice q ts.length c) (.slice pt ts.length ct) ts es p ok ∧ FOwn w8 base (.slice q ts.length c) F ∧ sdR.At w8 (.slice p5 S.length c5) S) := ⟨HAl7.out.1.keep g8, own_grow HAl7.out.2.1 g8, HAl7.out.2.2.1.keep g8⟩
    clear C9 g8 HAl7 HG7 HQ
    have hby : i3.bytes * ts.length ≤ 281474976710656 := by rw [hz2]; have := HS.out.2.2; omega
    have hmx : ts.length ≤ maxLen := by have := HS.out.2.2; unfold maxLen; omega
    go_upto_region 14 with (at_make; refine wpList_make_full _ rfl _ _ 51 rfl w8.heap.size 3 i3 (.int .i64 0) 1 Tryz.underlying51 hi3 hz0 hz1 .i64 .i64 _ _ ts.length rfl rfl rfl rfl hby hmx (Nat.le_refl _) ?_; intro V9 o9 g9; have HO9 := o9; have HD9 : Hid (w8.grownBy V9 none) := g9; clear g9)
    obtain ⟨d, hd⟩ : ∃ d, d = w8.heap.size := ⟨_, rfl⟩
    have HDd : Hid (w8.heap.size ≤ d) := by show _ ≤ _; omega
    have HN9 : Hid (NmL V9 d ts.length (nats (List.replicate ts.length 0))) := nml_made (by rw [← hd] at o9; exact o9)
    rw [← hd]
    clear hd o9 HO9 hby hmx
    go_upto_block 0 with fail
    go_cut [21] from 89 to 97 (fun _ wc => NmL wc d ts.length (nats (List.range ts.length)) ∧ w8.grownBy wc none)
    case first =>
      go_wp2_with fail
      go_loopw [21] (fun y wr => ∃ (i : Nat) (B : List Nat), i ≤ ts.length ∧ y = .int .i64 (i : Int) ∧ Hid (B.length = ts.length ∧ (∀ j, j < i → B[j]? = some j) ∧ NmL wr d ts.length (nats B) ∧ w8.grownBy wr none)) (fun y _ => ts.length - (intOf y).toNat)
      case atStart => exact ⟨0, _, Nat.zero_le _, rfl, List.length_replicate, fun j h => absurd h (Nat.not_lt_zero _), HN9.out, HD9.out⟩
      case round =>
        clear HN9 HD9
        obtain ⟨i, B, hi', rfl, HB⟩ := hrel
        obtain ⟨U, hU⟩ : ∃ U, U = wr := ⟨_, rfl⟩
        subst hU
        by_cases hi : i < ts.length
        · have i1 : (i : Int) < (ts.length : Int) := Int.ofNat_lt.2 hi
          have hwk := wrap_next (k := i) (Nat.le_trans (Nat.le_of_lt hi) (Nat.le_trans HS.out.2.2 (by decide)))
          have Hi : Hid (i < ts.length) := hi
          have HM : Hid (ts.length - (intOf (.int .i64 ((i : Int) + 1))).toNat < ts.length - (intOf (.int .i64 (i : Int))).toNat) := meas_k hi
          obtain ⟨x, cx⟩ : ∃ x, U.cell? ⟨d, i, none⟩ = some x := ⟨_, HB.out.2.2.1.cell (nats_at (List.getElem?_eq_getElem (show i < B.length by rw [HB.out.1]; exact hi))) hi⟩
          have cf := HB.out.2.2.1.free
          clear hi hi'
          go_wp2_with fail
          have SB := HB.out.2.2.1.set i (i : Int)
          rw [nats_set] at SB
          go_roundw
          case rel => exact ⟨i + 1, B.set i i, Hi.out, by first | rfl | (rw [hwk]; rfl) | go_num, by rw [List.length_set]; exact HB.out.1, upto_set HB.out.1 Hi.out HB.out.2.1, SB.1, grown_own HB.out.2.2.2 SB.2 (fun y e => by cases e; exact HDd.out)⟩
          case measure => first | exact HM.out | (rw [hwk]; exact HM.out)
        · obtain rfl : i = ts.length := Nat.le_antisymm hi' (Nat.le_of_not_lt hi)
          have i1 : ¬ (ts.length : Int) < (ts.length : Int) := Int.lt_irrefl _
          have HE : Hid (NmL U d ts.length (nats (List.range ts.length)) ∧ w8.grownBy U none) := ⟨by rw [← range_of HB.out.1 HB.out.2.1]; exact HB.out.2.2.1, HB.out.2.2.2⟩
          clear hi hi' HB
          go_wp2_with fail
          go_meet
          case rel => exact HE.out
    case rest =>
      have HC1 : Hid (NmL wc d ts.length (nats (List.range ts.length)) ∧ w8.grownBy wc none) := hcut
      clear hcut HN9 HD9
      obtain ⟨X1, hX1⟩ : ∃ X1, X1 = wc := ⟨_, rfl⟩
      subst hX1
      go_upto_block 2 with fail
      go_cut [22, 23] from 98 to 135 (fun _ _ wc => ∃ B : List Nat, B.Perm (List.range ts.length) ∧ NmL wc d ts.length (nats B) ∧ w8.grownBy wc none)
      case first =>
        go_wp2_with fail
        go_loopw [22, 23] (fun y _ wr => ∃ (i : Nat) (B : List Nat), i ≤ 60 ∧ y = .int .i64 (i : Int) ∧ Hid (B.Perm (List.range ts.length) ∧ NmL wr d ts.length (nats B) ∧ w8.grownBy wr none)) (fun y _ _ => 60 - (intOf y).toNat)
        case atStart => exact ⟨0, _, by decide, rfl, List.Perm.refl _, HC1.out.1, HC1.out.2⟩
        case round =>
          clear HC1
          obtain ⟨i, B, hi', rfl, HB⟩ := hrel
          obtain ⟨U, hU⟩ : ∃ U, U = wr := ⟨_, rfl⟩
          subst hU
          by_cases h1 : i < os.length
          · have h1' : (i : Int) < (os.length : Int) := Int.ofNat_lt.2 h1
            by_cases h2 : i < 60
            · have h2' : (i : Int) < 60 := by omega
              by_cases h3 : 0 < ts.length
              · have h3' : (0 : Int) < (ts.length : Int) := by omega
                obtain ⟨gO, oO, ep, cO⟩ := HO.out.there h1
                subst ep
                have cU := (grown_trans HG8.out HB.out.2.2).cell cO (by simp)
                obtain ⟨x, hx⟩ : ∃ x, x = os[i] := ⟨_, rfl⟩
                rw [← hx] at cU
                have CP := kpickd_any x ts.length U h3 (Nat.le_trans HS.out.2.2 (by decide))
                obtain ⟨y, hy⟩ : ∃ y, y = pkN x ts.length := ⟨_, rfl⟩
                have hyl : y < ts.length := by rw [hy]; exact pkN_lt h3
                rw [← hy] at CP
                obtain ⟨a, hal, har⟩ := mod_n (i := i) h3
                obtain ⟨na, ea, hna⟩ := perm_at HB.out.1 hal
                obtain ⟨ny, ey, hny⟩ := perm_at HB.out.1 hyl
                have Hx : Hid (B[a]? = some na ∧ B[y]? = some ny ∧ (i : Int).tmod (ts.length : Int) = (a : Int) ∧ a < ts.length ∧ y < ts.length ∧ i < 60) := ⟨ea, ey, har, hal, hyl, h2⟩
                have hwk := wrap_next (k := i) (Nat.le_trans (Nat.le_of_lt h2) (by decide))
                have HM : Hid (60 - (intOf (.int .i64 ((i : Int) + 1))).toNat < 60 - (intOf (.int .i64 (i : Int))).toNat) := meas_k h2
                clear h1 h2 cO hx hy ea ey har hna hny hi'
                go_wp2_with fail
                refine CP.mono ?_
                rintro e U2 ⟨rfl, hU2⟩
                obtain rfl : U = U2 := hU2.symm
                have h0 : ((ts.length : Int) == 0) = false := by simpa using (show ¬ ((ts.length : Int) = 0) by omega)
                have hy1 : (y : Int) < (ts.length : Int) := Int.ofNat_lt.2 hyl
                have ha1 : (a : Int) < (ts.length : Int) := Int.ofNat_lt.2 hal
                have ca := HB.out.2.1.cell (nats_at Hx.out.1) hal
                have cy := HB.out.2.1.cell (nats_at Hx.out.2.1) hyl
                have fa := HB.out.2.1.free a
                have fy := HB.out.2.1.free y
                have S1 := HB.out.2.1.set a (ny : Int)
                rw [nats_set] at S1
                have HS1 : Hid (NmL (U.setCell ⟨d, a, none⟩ (.int .i64 (ny : Int))) d ts.length (nats (B.set a ny)) ∧ U.grownBy (U.setCell ⟨d, a, none⟩ (.int .i64 (ny : Int))) (some d)) := S1
                have fy2 := S1.1.free y
                obtain ⟨z, cy2⟩ : ∃ z, (U.setCell ⟨d, a, none⟩ (.int .i64 (ny : Int))).cell? ⟨d, y, none⟩ = some z := ⟨_, S1.1.cell (nats_at (List.getElem?_eq_getElem (show y < (B.set a ny).length by rw [List.length_set, HB.out.1.length_eq, List.length_range]; exact hyl))) hyl⟩
                have haw : wrap64 (a : Int) = (a : Int) := by have := HS.out.2.2; unfold wrap64; omega
                clear CP cU S1
                go_upto_region 22 with fail
                have har := Hx.out.2.2.1
                go_region
                go_wp2_with fail
                have S2 := HS1.out.1.set y (na : Int)
                rw [nats_set] at S2
                go_roundw
                case rel => exact ⟨i + 1, (B.set a ny).set y na, Hx.out.2.2.2.2.2, by first | rfl | (rw [hwk]; rfl) | go_num, perm_swap HB.out.1 Hx.out.1 Hx.out.2.1, S2.1.grow (grown_drew _), grown_trans (grown_own (grown_own HB.out.2.2 HS1.out.2 (fun y e => by cases e; exact HDd.out)) S2.2 (fun y e => by cases e; exact HDd.out)) (grown_drew _)⟩
                case measure => first | exact HM.out | (rw [hwk]; exact HM.out)
              · have h3' : ¬ (0 : Int) < (ts.length : Int) := by omega
                clear h1 h2 h3 hi'
                go_wp2_with fail
                go_meet
                case rel => exact ⟨B, HB.out⟩
            · have h2' : ¬ (i : Int) < 60 := by omega
              clear h1 h2 hi'
              go_wp2_with fail
              go_meet
              case rel => exact ⟨B, HB.out⟩
          · have h1' : ¬ (i : Int) < (os.length : Int) := by omega
            clear h1 hi'
            go_wp2_with fail
            go_meet
            case rel => exact ⟨B, HB.out⟩
      case rest =>
        clear HC1
        obtain ⟨B, hB, hN, hG⟩ := hcut
        obtain ⟨X2, hX2⟩ : ∃ X2, X2 = wc := ⟨_, rfl⟩
        subst hX2
        have HB : Hid (B.Perm (List.range ts.length) ∧ NmL X2 d ts.length (nats B)) := ⟨hB, hN⟩
        have HAl9 : Hid (AlR X2 base b (.slice q ts.length c) (.slice pt ts.length ct) ts es p ok ∧ FOwn X2 base (.slice q ts.length c) F ∧ sdR.At X2 (.slice p5 S.length c5) S) := ⟨HAl8.out.1.keep hG, own_grow HAl8.out.2.1 hG, HAl8.out.2.2.keep hG⟩
        have HGX : Hid (w.grownBy X2 none) := grown_trans HG8.out hG
        clear hB hN hG HAl8 HG8 HO HDd
        obtain ⟨n1, hn1⟩ : ∃ n1, n1 = ts.length + 1 := ⟨_, rfl⟩
        have hwn : wrap64 ((ts.length : Int) + 1) = (n1 : Int) := by have := HS.out.2.2; unfold wrap64; omega
        have HN1 : Hid (n1 = ts.length + 1 ∧ n1 ≤ 61) := ⟨hn1, by have := HS.out.2.2; omega⟩
        clear hn1
        have hby : i3.bytes * n1 ≤ 281474976710656 := by rw [hz2]; have := HN1.out.2; omega
        have hmx : n1 ≤ maxLen := by have := HN1.out.2; unfold maxLen; omega
        go_upto_region 25 with (at_make; refine wpList_make_full _ rfl _ _ 51 rfl X2.heap.size 3 i3 (.int .i64 0) 1 Tryz.underlying51 hi3 hz0 hz1 .i64 .i64 _ _ n1 rfl rfl hwn hwn hby hmx (Nat.le_refl _) ?_; intro V3 o3 g3; have HO3 := o3; have HD3 : Hid (X2.grownBy V3 none) := g3; clear g3)
        obtain ⟨d2, hd2⟩ : ∃ d2, d2 = X2.heap.size := ⟨_, rfl⟩
        have HN3 : Hid (NmL V3 d2 n1 (nats (List.replicate n1 0))) := nml_made (by rw [← hd2] at o3; exact o3)
        rw [← hd2]
        obtain ⟨bs, hbs⟩ : ∃ bs, bs = V3.heap.size := ⟨_, rfl⟩
        have HD2 : Hid (X2.heap.size ≤ d2 ∧ d2 < bs ∧ X2.heap.size ≤ bs ∧ bs ≤ V3.heap.size) := by
          obtain ⟨cs9, fr9, h9⟩ := own_typed HN3.out d2 rfl
          have h8 := block_lt h9
          exact ⟨by omega, by omega, by omega, by omega⟩
        clear hd2 o3 HO3 hby hmx hwn hbs hi3 hz0 hz1 hz2 i3
        go_upto_block 4 with fail
        go_cut [24, 26] from 139 to 162 (fun v _ wc => ∃ pl cl tl, v = .slice pl ts.length cl ∧ thR.Own 60 wc bs v (lsA ts B ts.length) ∧ NmL wc d2 n1 tl ∧ ToL B ts.length n1 tl ∧ X2.grownBy wc none)
        case first =>
          go_wp2_with fail
          go_loopw [24, 26] (fun v y wr => ∃ (i : Nat) (pl : Option Addr) (cl : Nat) (tl : List Int), i ≤ ts.length ∧ v = .slice pl i cl ∧ y = .int .i64 (i : Int) ∧ Hid (thR.Own 60 wr bs (.slice pl i cl) (lsA ts B i) ∧ NmL wr d2 n1 tl ∧ ToL B i n1 tl ∧ X2.grownBy wr none ∧ bs ≤ wr.heap.size)) (fun _ y _ => ts.length - (intOf y).toNat)
          case atStart => exact ⟨0, none, 0, _, Nat.zero_le _, rfl, rfl, RecT.Own.nil _ _ _ _, HN3.out, ToL.start _ _ _ (by rw [nats_len, List.length_replicate]), HD3.out, HD2.out.2.2.2⟩
          case round =>
            clear HN3 HD3
            obtain ⟨i, pl, cl, tl, hi', rfl, rfl, HL⟩ := hrel
            obtain ⟨U, hU⟩ : ∃ U, U = wr := ⟨_, rfl⟩
            subst hU
            by_cases hi : i < ts.length
            · have i1 : (i : Int) < (ts.length : Int) := Int.ofNat_lt.2 hi
              have hwk := wrap_next (k := i) (Nat.le_trans (Nat.le_of_lt hi) (Nat.le_trans HS.out.2.2 (by decide)))
              have HM : Hid (ts.length - (intOf (.int .i64 ((i : Int) + 1))).toNat < ts.length - (intOf (.int .i64 (i : Int))).toNat) := meas_k hi
              obtain ⟨a, ea, hal⟩ := perm_at HB.out.1 hi
              have ca := HL.out.2.2.2.1.cell (HB.out.2.cell (nats_at ea) hi) (by simp)
              obtain ⟨gT, oT, cT, eT, rT⟩ := th_there (HAl9.out.1.th.keep HL.out.2.2.2.1) hal
              injection eT with eT _ _
              subst eT
              obtain ⟨t, ht⟩ : ∃ t, t = ts[a] := ⟨_, rfl⟩
              rw [← ht] at rT
              have a1 : (a : Int) < (ts.length : Int) := Int.ofNat_lt.2 hal
              have hwa := wrap_next (k := a) (Nat.le_trans (Nat.le_of_lt hal) (Nat.le_trans HS.out.2.2 (by decide)))
              have a2 : (a : Int) + 1 < (n1 : Int) := by have := HN1.out.1; omega
              have a3 : (0 : Int) ≤ (a : Int) + 1 := by omega
              have HX : Hid (B[i]? = some a ∧ ts.getD a Th.none = t ∧ i < ts.length ∧ a + 1 < n1) := ⟨ea, by rw [ht, getD_in hal], hi, by have := HN1.out.1; omega⟩
              obtain ⟨t0, t1, t2, t3, t4, t5, t6, t7, t8, t9, t10⟩ := th_cells rT
              have HOU : Hid (U.ownsRow bs 60 11 (.slice pl i cl) i (thR.cs (lsA ts B i))) := by
                have h9 := HL.out.1
                unfold RecT.Own at h9
                rw [lsA_len (by rw [HB.out.1.length_eq, List.length_range]; exact Nat.le_of_lt hi)] at h9
                exact h9
              have HLn : Hid (i + 1 ≤ maxLen ∧ (i + 1) * 88 ≤ 140737488355328) := len_smallT (Nat.le_trans (Nat.le_of_lt hi) (Nat.le_trans HS.out.2.2 (by decide)))
              have gA : U.grownBy (U.alloc (.cells (thc t).toArray 60)) none := World.grownBy_alloc _ _ none
              have HUa : Hid (NmL (U.alloc (.cells (thc t).toArray 60)) d2 n1 tl ∧ X2.grownBy (U.alloc (.cells (thc t).toArray 60)) none ∧ bs ≤ (U.alloc (.cells (thc t).toArray 60)).heap.size) := ⟨HL.out.2.1.grow gA, grown_trans HL.out.2.2.2.1 gA, Nat.le_trans HL.out.2.2.2.2 gA.size⟩
              clear hi hi' ea hal rT ht gA
              go_upto_region 29 with (at_builtin; refine lwpl_app (by rfl) (.tmp 144) (.tmp 152) 26 rfl bs 60 iT _ 11 88 Tryz.underlying26 hiT hT0 hT1 hT2 rfl (by decide) _ i (thR.cs (lsA ts B i)) rfl (World.ownsRow.alloc HOU.out _) _ 1 (thc t) rfl (th_src U t) (thc_ones _) HLn.out.1 HLn.out.2 HUa.out.2.2 ?_; intro v9 w9 o9 g9 _; obtain ⟨pv, kv, rfl, -⟩ := own_slice o9; have HO9 : Hid _ := o9; have HG9 : Hid _ := g9; clear o9 g9)
              have hOa := World.ownsRow.alloc HOU.out (.cells (thc t).toArray 60)
              have HN9 : Hid (NmL w9 d2 n1 tl) := own_other HUa.out.1 hOa (by decide) HG9.out
              have HXg : Hid (X2.grownBy w9 none ∧ bs ≤ w9.heap.size) := ⟨grown_own HUa.out.2.1 HG9.out (fun y e => Nat.le_trans HD2.out.2.2.1 (World.ownsRow.lt hOa y e).1), Nat.le_trans HUa.out.2.2 HG9.out.size⟩
              have HOl : Hid (thR.Own 60 w9 bs (.slice pv (i + 1) kv) (lsA ts B (i + 1))) := by
                show RecT.Own _ _ _ _ _ _
                rw [lsA_next HX.out.1 HX.out.2.1]
                exact RecT.more HO9.out (lsA_len (by rw [HB.out.1.length_eq, List.length_range]; exact Nat.le_of_lt HX.out.2.2.1)).symm
              have ca := HXg.out.1.cell (HB.out.2.cell (nats_at HX.out.1) HX.out.2.2.1) (by simp)
              obtain ⟨z, cz⟩ : ∃ z, w9.cell? ⟨d2, a + 1, none⟩ = some z := ⟨_, HN9.out.cell (List.getElem?_eq_getElem (show a + 1 < tl.length by rw [HL.out.2.2.1.1]; exact HX.out.2.2.2)) HX.out.2.2.2⟩
              have fz := HN9.out.free
              clear hOa HO9 HG9 HOU HUa t0 t1 t2 t3 t4 t5 t6 t7 t8 t9 t10 HLn
              go_wp2_with fail
              have S9 := HN9.out.set (a + 1) ((i : Int) + 1)
              go_roundw
              case rel => exact ⟨i + 1, HX.out.2.2.1, pv, kv, ⟨rfl, rfl, rfl⟩, by omega, tl.set (a + 1) ((i : Int) + 1), own_aboveV HOl.out S9.2 HD2.out.2.1, S9.1, HL.out.2.2.1.step (HB.out.1.nodup_iff.2 List.nodup_range) HX.out.1 HX.out.2.2.2, grown_own HXg.out.1 S9.2 (fun y e => by cases e; exact HD2.out.1), HXg.out.2⟩
              case measure => first | exact HM.out | (rw [hwk]; exact HM.out)
            · obtain rfl : i = ts.length := Nat.le_antisymm hi' (Nat.le_of_not_lt hi)
              have i1 : ¬ (ts.length : Int) < (ts.length : Int) := Int.lt_irrefl _
              have HE : Hid (∃ pl' cl' tl, Value.slice pl ts.length cl = .slice pl' ts.length cl' ∧ thR.Own 60 U bs (.slice pl ts.length cl) (lsA ts B ts.length) ∧ NmL U d2 n1 tl ∧ ToL B ts.length n1 tl ∧ X2.grownBy U none) := ⟨pl, cl, tl, rfl, HL.out.1, HL.out.2.1, HL.out.2.2.1, HL.out.2.2.2.1⟩
              clear hi hi' HL
              go_wp2_with fail
              go_meet
              case rel => exact HE.out
        case rest =>
          obtain ⟨pl, cl, tl, rfl, hO, hN, hT, hG⟩ := hcut
          obtain ⟨X3, hX3⟩ : ∃ X3, X3 = wc := ⟨_, rfl⟩
          subst hX3
          obtain ⟨ls, hls⟩ : ∃ ls, ls = B.map fun a => ts.getD a Th.none := ⟨_, rfl⟩
          rw [lsA_all HB.out.1, ← hls] at hO
          have hlen : ls.length = ts.length := by rw [hls, List.length_map, HB.out.1.length_eq, List.length_range]
          obtain ⟨Q2, hQ2⟩ : ∃ Q2, TrS p es (fun j => B.idxOf j) ts ls R Q2 := TrS.of (by rw [hls]; exact turned_order HR.out HB.out.1) HR.out (Nat.le_trans HS.out.2.2 (by decide)) HAl9.out.1.vk
          have HQ2 : Hid (TrS p es (fun j => B.idxOf j) ts ls R Q2 ∧ ls.length = ts.length) := ⟨hQ2, hlen⟩
          obtain ⟨_, _, elc, hlc⟩ := own_cap hO
          injection elc with el1 el2 el3
          subst el1 el3
          have HX3 : Hid (thR.At X3 (.slice pl ts.length cl) ls ∧ ts.length ≤ cl) := ⟨RecT.Own.at hO, by rw [← hlen]; exact hlc⟩
          clear hlen hlc
          have HN3' : Hid (NmL X3 d2 n1 tl ∧ ToL B ts.length n1 tl ∧ NmL X3 d ts.length (nats B)) := ⟨hN, hT, HB.out.2.grow hG⟩
          have HA3 : Hid (AlR X3 base b (.slice q ts.length c) (.slice pt ts.length ct) ts es p ok ∧ FOwn X3 base (.slice q ts.length c) F ∧ sdR.At X3 (.slice p5 S.length c5) S ∧ w.grownBy X3 none) := ⟨HAl9.out.1.keep hG, own_grow HAl9.out.2.1 hG, HAl9.out.2.2.keep hG, grown_trans HGX.out hG⟩
          have C10 := of_turned HQ2.out.1 HA3.out.1.bk HX3.out.1 HQ2.out.2 ⟨_, _, rfl, HX3.out.2⟩
          obtain ⟨F2, hF2⟩ : ∃ F2, F2 = bhL Q2 (mfB p) ls (prtF (pfB p es) ls) 6 := ⟨_, rfl⟩
          obtain ⟨S2, hS2⟩ : ∃ S2, S2 = S.map (reS (uOf fun j => B.idxOf j)) := ⟨_, rfl⟩
          have C11 : Hid (∀ X, X3.grownBy X none → Calls Tryz.prog 27 #[.pointer (some ⟨b, 0, none⟩), .slice pl ts.length cl] X fun e w' => ∃ q c, e = .returned (.tuple #[.slice q S.length c, .int .i64 0]) ∧ X.grownBy w' none ∧ sdR.At w' (.slice q S.length c) S2) := fun X g => steps_turned HQ2.out.1 (HA3.out.1.bk.keep g) (HX3.out.1.keep g) HQ2.out.2 ⟨_, _, rfl, HX3.out.2⟩ (by rw [HQ2.out.1.steps, ← HS.out.1, hS2]) (by rw [hS2, List.length_map])
          rw [← hF2] at C10
          have HF2 : Hid (F2 = bhL Q2 (mfB p) ls (prtF (pfB p es) ls) 6 ∧ S2 = S.map (reS (uOf fun j => B.idxOf j)) ∧ S2.length = S.length) := ⟨hF2, hS2, by rw [hS2, List.length_map]⟩
          clear hO hN hT hG hls hQ2 hF2 hS2 HN3 HD3 HAl9 HGX HD2 hiT hT0 hT1 hT2 iT el2
          go_wp2_with fail
          refine C10.mono ?_
          rintro e4 x4 ⟨q4, k4, rfl, g4, o4⟩
          have C12 := C11.out x4 g4
          have HA4 : Hid (FOwn x4 base (.slice q ts.length c) F ∧ sdR.At x4 (.slice p5 S.length c5) S ∧ w.grownBy x4 none ∧ feR.At x4 (.slice q4 ts.length k4) F2 ∧ NmL x4 d2 n1 tl ∧ ToL B ts.length n1 tl ∧ NmL x4 d ts.length (nats B)) := ⟨own_grow HA3.out.2.1 g4, HA3.out.2.2.1.keep g4, grown_trans HA3.out.2.2.2 g4, RecT.Own.at o4, HN3'.out.1.grow g4, HN3'.out.2.1, HN3'.out.2.2.grow g4⟩
          clear C10 C11 g4 o4 HA3 HN3' HX3
          go_wp2_with fail
          refine C12.mono ?_
          rintro e5 x5 ⟨q5, k5, rfl, g5, o5⟩
          have HA5 : Hid (FOwn x5 base (.slice q ts.length c) F ∧ sdR.At x5 (.slice p5 S.length c5) S ∧ w.grownBy x5 none ∧ feR.At x5 (.slice q4 ts.length k4) F2 ∧ NmL x5 d2 n1 tl ∧ ToL B ts.length n1 tl ∧ NmL x5 d ts.length (nats B) ∧ sdR.At x5 (.slice q5 S.length k5) S2) := ⟨own_grow HA4.out.1 g5, HA4.out.2.1.keep g5, grown_trans HA4.out.2.2.1 g5, HA4.out.2.2.2.1.keep g5, HA4.out.2.2.2.2.1.grow g5, HA4.out.2.2.2.2.2.1, HA4.out.2.2.2.2.2.2.grow g5, o5⟩
          clear C12 g5 o5 HA4
          have HFl : Hid (F2.length = ts.length) := by show _ = _; rw [HF2.out.1, bhL_len]; exact HQ2.out.2
          have e1 : ((ts.length : Int) != (ts.length : Int)) = false := bne_self_eq_false _
          have e2 : ((S.length : Int) != (S.length : Int)) = false := bne_self_eq_false _
          go_wp2_with fail
          go_loopw [29] (fun y wr => ∃ (i : Nat), i ≤ ts.length ∧ y = .int .i64 (i : Int) ∧ Hid (x5.grownBy wr none)) (fun y _ => ts.length - (intOf y).toNat)
          case atStart => exact ⟨0, Nat.zero_le _, rfl, grown_refl _ _⟩
          case round =>
            obtain ⟨i, hi', rfl, HG⟩ := hrel
            obtain ⟨U, hU⟩ : ∃ U, U = wr := ⟨_, rfl⟩
            subst hU
            by_cases hi : i < ts.length
            · have i1 : (i : Int) < (ts.length : Int) := Int.ofNat_lt.2 hi
              have hwk := wrap_next (k := i) (Nat.le_trans (Nat.le_of_lt hi) (Nat.le_trans HS.out.2.2 (by decide)))
              have HM : Hid (ts.length - (intOf (.int .i64 ((i : Int) + 1))).toNat < ts.length - (intOf (.int .i64 (i : Int))).toNat) := meas_k hi
              obtain ⟨a, ea, hal⟩ := perm_at HB.out.1 hi
              have ca := (HA5.out.2.2.2.2.2.2.1.grow HG.out).cell (nats_at ea) hi
              obtain ⟨gF, oF, kF, eF, rF⟩ := fe_there ((RecT.Own.at HA5.out.1).keep HG.out) (show a < F.length by rw [HFe.out.2]; exact hal)
              obtain ⟨gE, oE, kE, eE, rE⟩ := fe_there (HA5.out.2.2.2.1.keep HG.out) (show i < F2.length by rw [HFl.out]; exact hi)
              injection eF with eF _ _
              injection eE with eE _ _
              subst eF eE
              have hfe : F2[i]'(by rw [HFl.out]; exact hi) = F[a]'(by rw [HFe.out.2]; exact hal) := by
                have h9 := HQ2.out.1.feats hal
                rw [idx_at HB.out.1 ea, ← HF2.out.1, ← HFe.out.1, getD_in (show i < F2.length by rw [HFl.out]; exact hi), getD_in (show a < F.length by rw [HFe.out.2]; exact hal)] at h9
                exact h9
              rw [hfe] at rE
              obtain ⟨f, hf⟩ : ∃ f, f = F[a]'(by rw [HFe.out.2]; exact hal) := ⟨_, rfl⟩
              rw [← hf] at rE rF
              have a1 : (a : Int) < (ts.length : Int) := Int.ofNat_lt.2 hal
              have Hi : Hid (i < ts.length) := hi
              obtain ⟨f0, f1, f2, f3, f4⟩ := fe_cells rF
              obtain ⟨y0, y1, y2, y3, y4⟩ := fe_cells rE
              have hnq := neq_feL f.ho f.su f.tr f.po f.he
              have hgq := eqg_feL
              clear hi hi' ea hal rF rE hfe hf
              go_upto_region 37 with fail
              go_quiet (fail)
              clear f0 f1 f2 f3 f4 y0 y1 y2 y3 y4 ca hnq hgq
              go_wp2_with fail
              go_roundw
              case rel => exact ⟨i + 1, Hi.out, by first | rfl | (rw [hwk]; rfl) | go_num, grown_trans HG.out (grown_drewN _ _ _)⟩
              case measure => first | exact HM.out | (rw [hwk]; exact HM.out)
            · obtain rfl : i = ts.length := Nat.le_antisymm hi' (Nat.le_of_not_lt hi)
              have i1 : ¬ (ts.length : Int) < (ts.length : Int) := Int.lt_irrefl _
              clear hi hi'
              have HA6 : Hid (sdR.At U (.slice p5 S.length c5) S ∧ w.grownBy U none ∧ NmL U d2 n1 tl ∧ ToL B ts.length n1 tl ∧ sdR.At U (.slice q5 S.length k5) S2 ∧ n1 = ts.length + 1) := ⟨HA5.out.2.1.keep HG.out, grown_trans HA5.out.2.2.1 HG.out, HA5.out.2.2.2.2.1.grow HG.out, HA5.out.2.2.2.2.2.1, HA5.out.2.2.2.2.2.2.2.keep HG.out, HN1.out.1⟩
              have HTh : Hid (∀ e ∈ S, 1 ≤ e.th ∧ e.th ≤ (ts.length : Int)) := fun e he => HQ2.out.1.th (by rw [← HS.out.1]; exact he)
              clear HA5 HG
              go_wp2_with fail
              go_loopw [30] (fun y wr => ∃ (i : Nat), i ≤ S.length ∧ y = .int .i64 (i : Int) ∧ Hid (U.grownBy wr none)) (fun y _ => S.length - (intOf y).toNat)
              case atStart => exact ⟨0, Nat.zero_le _, rfl, grown_refl _ _⟩
              case round =>
                obtain ⟨i, hi', rfl, HG⟩ := hrel
                obtain ⟨Z, hZ⟩ : ∃ Z, Z = wr := ⟨_, rfl⟩
                subst hZ
                by_cases hi : i < S.length
                · have i1 : (i : Int) < (S.length : Int) := Int.ofNat_lt.2 hi
                  have hwk := wrap_next (k := i) (Nat.le_trans (Nat.le_of_lt hi) (Nat.le_trans HS.out.2.1 (by decide)))
                  have HM : Hid (S.length - (intOf (.int .i64 ((i : Int) + 1))).toNat < S.length - (intOf (.int .i64 (i : Int))).toNat) := meas_k hi
                  have Hi : Hid (i < S.length) := hi
                  obtain ⟨s, hs⟩ : ∃ s, s = S[i] := ⟨_, rfl⟩
                  have es0 : S[i]? = some s := by rw [hs]; exact List.getElem?_eq_getElem hi
                  have es1 : S2[i]? = some (reS (uOf fun j => B.idxOf j) s) := by rw [HF2.out.2.1, List.getElem?_map, es0]; rfl
                  obtain ⟨gS, oS, kS, eS, -⟩ := sd_there (HA6.out.1.keep HG.out) hi
                  injection eS with eS _ _
                  subst eS
                  have rS := sd_at' (HA6.out.1.keep HG.out) es0
                  obtain ⟨gE, oE, kE, eE, -⟩ := sd_there (HA6.out.2.2.2.2.1.keep HG.out) (show i < S2.length by rw [HF2.out.2.2]; exact hi)
                  injection eE with eE _ _
                  subst eE
                  have rE := sd_at' (HA6.out.2.2.2.2.1.keep HG.out) es1
                  obtain ⟨h1, h2⟩ := HTh.out s (by rw [hs]; exact List.getElem_mem _)
                  obtain ⟨x, hx⟩ : ∃ x : Nat, s.th = (x : Int) := ⟨s.th.toNat, by omega⟩
                  have hto := HA6.out.2.2.2.1
                  rw [HA6.out.2.2.2.2.2] at hto
                  have cT := (HA6.out.2.2.1.grow HG.out).cell (hto.is HB.out.1 h1 h2) (by rw [HA6.out.2.2.2.2.2]; omega)
                  obtain ⟨u, hu⟩ : ∃ u, u = uOf (fun j => B.idxOf j) s.th := ⟨_, rfl⟩
                  rw [← hu, hx, Int.toNat_natCast] at cT
                  obtain ⟨x0, x1, x2, x3, x4, x5', x6, x7, x8, x9⟩ := sd_cells rS
                  obtain ⟨y0, y1, y2, y3, y4, y5, y6, y7, y8, y9⟩ := sd_cells rE
                  rw [hx] at x0
                  rw [show (reS (uOf fun j => B.idxOf j) s).th = u from hu.symm] at y0
                  simp only [reS] at y1 y2 y3 y4 y5 y6 y7 y8 y9
                  have hxn : (x : Int) < (n1 : Int) := by have := HA6.out.2.2.2.2.2; omega
                  have hnp := neq_ptL s.wh
                  have hgp := eqg_ptL
                  have eu : (u != u) = false := bne_self_eq_false _
                  have ep : (s.pl != s.pl) = false := bne_self_eq_false _
                  clear hi hi' hs es0 es1 rS rE h1 h2 hto hu hx
                  go_upto_region 42 with fail
                  go_quiet (fail)
                  clear x0 x1 x2 x3 x4 x5' x6 x7 x8 x9 y0 y1 y2 y3 y4 y5 y6 y7 y8 y9 cT hnp hgp eu ep
                  go_wp2_with fail
                  go_roundw
                  case rel => exact ⟨i + 1, Hi.out, by first | rfl | (rw [hwk]; rfl) | go_num, grown_trans HG.out (grown_drewN _ _ _)⟩
                  case measure => first | exact HM.out | (rw [hwk]; exact HM.out)
                · obtain rfl : i = S.length := Nat.le_antisymm hi' (Nat.le_of_not_lt hi)
                  have i1 : ¬ (S.length : Int) < (S.length : Int) := Int.lt_irrefl _
                  have HE : Hid (w.grownBy Z none) := grown_trans HA6.out.2.1 HG.out
                  clear hi hi' HG HA6
                  go_wp2_with fail
                  go_ret
                  exact ⟨rfl, HE.out⟩
end Go.Proofs.YtmemeloehgemcaaGreat
namespace Go.Proofs.YtmemeloehgemcaaGreat
open Go.RowKit Go.Shelf Go.Deep

theorem recs_cap {α : Type} (R : RecT α) {T E : TypeId} (hu : Tryz.prog.underlying T = some (.slice E)) {H : Type} {enc : TypeId × Value → H} {w : World} {base : Nat} {sp : Nat → Bool} {held : Bool} {fuel : Nat} {v : Value} {x : DataW H × List MemPlace} (h : DataW.trod enc Tryz.prog w base sp held fuel T [v] = some x) {l : List α} (hA : R.At w v l) : ∃ q c, v = .slice q l.length c ∧ l.length ≤ c := by
  obtain ⟨p, c, e⟩ := hA.form
  rcases open_slice hu h with ⟨hcs, _⟩ | ⟨a, len, cp, m, f, D, Pl, hcs, _, hl, hm, hmm, hxx, hx⟩
  · simp at hcs
    rw [e] at hcs
    injection hcs with _ e2 e3
    exact ⟨p, c, e, by omega⟩
  · simp at hcs
    rw [e] at hcs
    injection hcs with _ e2 e3
    exact ⟨p, c, e, by omega⟩
theorem open_things {H : Type} {enc : TypeId × Value → H} {w : World} {base : Nat} {sp : Nat → Bool} {held : Bool} {v : Value} {x : DataW H × List MemPlace} (h : ∃ fuel, DataW.trod enc Tryz.prog w base sp held fuel 26 [v] = some x) : ∃ ts, thR.At w v ts ∧ ∃ q c, v = .slice q ts.length c ∧ ts.length ≤ c := by
  obtain ⟨fuel, hf⟩ := h
  haveI : Inhabited Th := ⟨⟨0, 0, 0, 0, 0, 0, 0, 0, 0, 0, false⟩⟩
  obtain ⟨ts, hT⟩ := recs_open thR Tryz.underlying26 cOfTh (fun a b => thing_cells a b) hf
  exact ⟨ts, hT, recs_cap thR Tryz.underlying26 hf hT⟩
end Go.Proofs.YtmemeloehgemcaaGreat
namespace Go.Proofs.YtmemeloehgemcaaGreat
open Go.ChangeShapes Go.WideShapes Go.ChangeAt Go.RowKit Go.Deep

theorem cOf3 : Tryz.prog.cellsOf 3 = 1 := by kernel_rfl
theorem bytes3x : Tryz.prog.bytesOf 3 = 8 := by kernel_rfl
set_option maxRecDepth 100000 in
theorem numsB_open {H : Type} {enc : TypeId × Value → H} {w : World} {base : Nat} {held : Bool} {fuel : Nat} {v : Value} {x : DataW H × List MemPlace}
    (h : DataW.trod enc Tryz.prog w base (fun _ => true) held fuel 51 [v] = some x) (hz : ∀ n ∈ x.1.weights Tryz.prog 51, n ≤ reachBytes) : ∃ os : List Int, IntsB w v os ∧ (os.length + 2) * 8 ≤ 140737488355328 := by
  rcases open_slice1 Tryz.underlying51 cOf3 h with ⟨hcs, _⟩ | ⟨a, len, cp, m, f, V, D, Pl, hcs, _, hl, hm, hmm, hxx, hx⟩
  · simp at hcs
    subst hcs
    exact ⟨[], Or.inl ⟨_, rfl, rfl⟩, by decide⟩
  · simp at hcs
    subst hcs
    simp at hmm
    have hnm : len ≤ m := by omega
    have hp : ∀ i, i < len → ∃ s : Int, w.cell? (a.add i) = some (.int .i64 s) := fun i hi => by
      obtain ⟨h1, h2⟩ := hx i (by omega)
      obtain ⟨z, e, _, _⟩ := DataW.trod_int Tryz.underlying3 h2
      simp only [List.cons.injEq, and_true] at e
      exact ⟨z, by rw [h1, e]⟩
    obtain ⟨F, hF⟩ := choose_lt (α := Int) hp
    refine ⟨(List.range len).map F, ?_, ?_⟩
    · by_cases hc0 : cp = 0
      · subst hc0
        obtain rfl : len = 0 := by omega
        exact Or.inl ⟨_, rfl, rfl⟩
      · have c0 := (hx 0 (by omega)).1
        have ex : a.add 0 = a := by simp [Addr.add]
        rw [ex] at c0
        have pl := addr_plain c0
        refine Or.inr ⟨a.block, a.off, cp, by rw [← pl]; simp, by simpa using hl, fun j u hu => ?_⟩
        have hj : j < len := by have := (List.getElem?_eq_some_iff.1 hu).1; rw [length_ints] at this; simpa using this
        obtain rfl : u = .int .i64 (F j) := by simp [ints, hj] at hu; exact hu.symm
        have := hF j hj
        rw [pl, add_plain] at this
        exact this
    · have hb := hz ((len + (m - len)) * 8) (by rw [hxx]; simp [DataW.weights, Tryz.underlying51, bytes3x])
      unfold reachBytes at hb
      simp only [List.length_map, List.length_range]
      omega
end Go.Proofs.YtmemeloehgemcaaGreat
